package epoch_test

import (
	"math"
	"math/rand"
	"reflect"
	"slices"
	"strings"
	"testing"
	"unsafe"

	"cratewatch/api"
	"cratewatch/epoch"
)

// far: numbers that are out of every bound.
var far = []int{math.MinInt, math.MinInt32, -1001, -256, -51, -1, 1001, 1002, 65536, math.MaxInt32, math.MaxInt}

func desk(t testing.TB, size, late int) *epoch.Desk {
	t.Helper()
	d, err := epoch.New(size, late)
	if err != nil || d == nil {
		t.Fatalf("New(%d, %d): %v, %v", size, late, d, err)
	}
	return d
}

func tick(t testing.TB, d *epoch.Desk, n int) []api.Epoch {
	t.Helper()
	l, err := d.Tick(n)
	if err != nil {
		t.Fatalf("tick %d: Tick(%d): %v", d.Now(), n, err)
	}
	return l
}

func add(t testing.TB, d *epoch.Desk, sights ...api.Sight) {
	t.Helper()
	for _, s := range sights {
		if err := d.Add(s); err != nil {
			t.Fatalf("tick %d: Add(%+v): %v", d.Now(), s, err)
		}
	}
}

// stands: is it that tick, and are so many epochs closed?
func stands(t testing.TB, d *epoch.Desk, now, closed int) {
	t.Helper()
	if d.Now() != now || d.Closed() != closed {
		t.Fatalf("tick %d, %d closed; %d, %d are wanted", d.Now(), d.Closed(), now, closed)
	}
}

// told: are these the epochs that are wanted? An empty list may be nil or not.
func told(t testing.TB, got []api.Epoch, want ...api.Epoch) {
	t.Helper()
	same := slices.EqualFunc(got, want, func(a, b api.Epoch) bool {
		return a.Number == b.Number && slices.Equal(a.Sights, b.Sights)
	})
	if !same {
		t.Fatalf("%+v; %+v is wanted", got, want)
	}
}

// sight that may be added at any time, in the first tick.
func sight() api.Sight { return api.Sight{Place: 3, Strength: 9, Tag: "abcdefgh"} }

func at(time int) api.Sight {
	s := sight()
	s.Time = time
	return s
}

// C1: just the sizes and the lates within bounds make a desk, and it stands at tick 0.
func TestNew(t *testing.T) {
	for size := -3; size <= 60; size++ {
		for late := -3; late <= 60; late++ {
			d, err := epoch.New(size, late)
			if right := 1 <= size && size <= 50 && 0 <= late && late <= 50; right != (err == nil) {
				t.Fatalf("New(%d, %d): %v", size, late, err)
			}
			if err == nil {
				stands(t, d, 0, 0)
			} else if d != nil || err != error(api.ErrBound) {
				t.Fatalf("New(%d, %d): %v, %v", size, late, d, err)
			}
		}
	}
	for _, n := range far {
		for _, c := range [][2]int{{n, 0}, {1, n}, {n, n}, {n, -1}, {0, n}} {
			if d, err := epoch.New(c[0], c[1]); d != nil || err != error(api.ErrBound) {
				t.Errorf("New(%d, %d): %v, %v", c[0], c[1], d, err)
			}
		}
	}
}

// C1, C2: a desk's life, worked out by hand: epochs of 3 ticks, closed 2 ticks behind their last one.
func TestKnownDesk(t *testing.T) {
	d := desk(t, 3, 2)
	add(t, d, at(0))
	told(t, tick(t, d, 4))
	stands(t, d, 4, 0)
	add(t, d, at(4), at(2), at(3))
	told(t, tick(t, d, 1), api.Epoch{Number: 0, Sights: []api.Sight{at(0), at(2)}})
	stands(t, d, 5, 1)
	for _, time := range []int{0, 1, 2} {
		if err := d.Add(at(time)); err != error(api.ErrLate) {
			t.Errorf("Add at %d: %v", time, err)
		}
	}
	add(t, d, at(5))
	told(t, tick(t, d, 2))
	add(t, d, at(7), at(3))
	told(t, tick(t, d, 1), api.Epoch{Number: 1, Sights: []api.Sight{at(3), at(3), at(4), at(5)}})
	stands(t, d, 8, 2)
	// epoch 2 has a sight, 3 and 4 have none, 5 has ticks that did not go by yet
	told(t, tick(t, d, 9), api.Epoch{Number: 2, Sights: []api.Sight{at(7)}}, api.Epoch{Number: 3}, api.Epoch{Number: 4})
	stands(t, d, 17, 5)
}

// isClosed, by the chapter's words.
func isClosed(k, size, late, now int) bool { return now >= (k+1)*size+late }

// C1, C2: of each size and late, tick by tick: an epoch is closed from its tick on, and told just then.
func TestEachTick(t *testing.T) {
	for size := 1; size <= api.MaxLen; size++ {
		for late := 0; late <= api.MaxLate; late++ {
			d := desk(t, size, late)
			closed := 0
			for now := 1; now <= api.MaxTime; now++ {
				var want []api.Epoch
				for isClosed(closed, size, late, now) {
					want = append(want, api.Epoch{Number: closed})
					closed++
				}
				told(t, tick(t, d, 1), want...)
				stands(t, d, now, closed)
			}
		}
	}
}

// C1: a sight is late just if its Time's epoch is closed; else it belongs to that epoch.
func TestEachTime(t *testing.T) {
	for _, c := range [][2]int{{1, 0}, {1, 1}, {1, 50}, {2, 0}, {2, 3}, {3, 2}, {7, 5}, {10, 10}, {50, 0}, {50, 50}} {
		size, late := c[0], c[1]
		for now := range 130 {
			for time := range now + 1 {
				d := desk(t, size, late)
				tick(t, d, now)
				err := d.Add(at(time))
				if isClosed(time/size, size, late, now) {
					if err != error(api.ErrLate) {
						t.Fatalf("size %d, late %d, tick %d: Add at %d: %v", size, late, now, time, err)
					}
				} else if err != nil {
					t.Fatalf("size %d, late %d, tick %d: Add at %d: %v", size, late, now, time, err)
				}
				for _, e := range tick(t, d, 150) {
					if has := err == nil && e.Number == time/size; has != (len(e.Sights) == 1) {
						t.Fatalf("size %d, late %d, tick %d: Add at %d: %+v", size, late, now, time, e)
					}
				}
			}
		}
	}
}

// C1: what Add takes, at the edges, comes out as it was.
func TestAddTakesSights(t *testing.T) {
	d := desk(t, 5, 1)
	tick(t, d, 4)
	var want []api.Sight
	for _, tag := range []string{"\x00\x00\x00\x00\x00\x00\x00\x00", "item:1.0", "\xff\xff\xff\xff\xff\xff\xff\xff"} {
		for time := range 5 {
			for place := range api.Places {
				for strength := range 256 {
					want = append(want, api.Sight{Place: place, Strength: strength, Time: time, Tag: tag})
				}
			}
		}
	}
	add(t, d, want...)
	told(t, tick(t, d, 2), api.Epoch{Number: 0, Sights: want})
}

// wrong sights, at tick 10 of epochs of 3 ticks that are closed at once.
func wrong() []api.Sight {
	var l []api.Sight
	for _, time := range []int{10, 9, 8, 0} { // some of these would be late, too
		spoil := func(how func(*api.Sight)) {
			s := at(time)
			how(&s)
			l = append(l, s)
		}
		for _, n := range append(far, 256, 257) {
			spoil(func(s *api.Sight) { s.Place = n })
			spoil(func(s *api.Sight) { s.Strength = n })
			spoil(func(s *api.Sight) { s.Time = n })
			spoil(func(s *api.Sight) { s.Place, s.Strength, s.Time, s.Tag = n, n, n, "" })
		}
		spoil(func(s *api.Sight) { s.Place = 8 })
		spoil(func(s *api.Sight) { s.Place = 9 })
		spoil(func(s *api.Sight) { s.Time = 11 })
		for _, n := range []int{0, 1, 7, 9, 16, 1 << 16} {
			spoil(func(s *api.Sight) { s.Tag = strings.Repeat("t", n) })
		}
		spoil(func(s *api.Sight) { s.Tag = "äöüäöüäö" }) // eight letters, sixteen bytes
	}
	return l
}

// C1, Z1, Z3: a sight that is none is out of bounds, late or not, and changes nothing.
func TestWhatIsNoSight(t *testing.T) {
	d := desk(t, 3, 0)
	tick(t, d, 10)
	add(t, d, at(9))
	for _, s := range wrong() {
		if err := d.Add(s); err != error(api.ErrBound) {
			t.Errorf("Add(%+v): %v", s, err)
		}
		stands(t, d, 10, 3)
	}
	if err := d.Add(at(8)); err != error(api.ErrLate) {
		t.Errorf("Add at 8: %v", err)
	}
	stands(t, d, 10, 3)
	told(t, tick(t, d, 2), api.Epoch{Number: 3, Sights: []api.Sight{at(9)}})
	told(t, tick(t, d, 3), api.Epoch{Number: 4})
}

// C2, Z1: Tick goes as far as MaxTime; what it refuses changes nothing.
func TestTickBounds(t *testing.T) {
	for _, now := range []int{0, 1, 2, 7, 499, 500, 998, 999, 1000} {
		d := desk(t, 4, 1)
		tick(t, d, now)
		closed := d.Closed()
		add(t, d, at(now))
		for _, n := range append(far, 1000-now+1, 1000-now+2, math.MaxInt-now, math.MinInt+now) {
			if l, err := d.Tick(n); len(l) != 0 || err != error(api.ErrBound) {
				t.Errorf("tick %d: Tick(%d): %v, %v", now, n, l, err)
			}
			stands(t, d, now, closed)
		}
		told(t, tick(t, d, 0))
		stands(t, d, now, closed)
		sights := 0
		for _, e := range tick(t, d, 1000-now) {
			sights += len(e.Sights)
		}
		stands(t, d, 1000, 249)
		if kept := now/4 < 249; kept != (sights == 1) {
			t.Errorf("tick %d: %d sights", now, sights)
		}
		if l, err := d.Tick(1); len(l) != 0 || err != error(api.ErrBound) {
			t.Errorf("tick 1000: Tick(1): %v, %v", l, err)
		}
		told(t, tick(t, d, 0))
	}
}

// C2: the longest tick tells every epoch, those without sights too.
func TestAllEpochsAtOnce(t *testing.T) {
	for _, c := range []struct{ size, late, closed int }{{1, 0, 1000}, {1, 1, 999}, {1, 50, 950}, {2, 1, 499}, {50, 0, 20}, {50, 1, 19}, {50, 50, 19}, {49, 50, 19}, {3, 2, 332}} {
		d := desk(t, c.size, c.late)
		add(t, d, at(0))
		l := tick(t, d, 1000)
		stands(t, d, 1000, c.closed)
		want := make([]api.Epoch, c.closed)
		for k := range want {
			want[k].Number = k
		}
		want[0].Sights = []api.Sight{at(0)}
		told(t, l, want...)
	}
}

// ordered: sights in the chapter's order: each differs from the next one in a field, and those behind it say the contrary.
func ordered() []api.Sight {
	return []api.Sight{
		{Place: 7, Strength: 255, Time: 4, Tag: "\x00zzzzzzz"},
		{Place: 6, Strength: 254, Time: 3, Tag: "Zzzzzzzz"},
		{Place: 5, Strength: 99, Time: 2, Tag: "aaaaaaaa"},
		{Place: 5, Strength: 98, Time: 3, Tag: "aaaaaaaa"},
		{Place: 4, Strength: 97, Time: 4, Tag: "aaaaaaaa"},
		{Place: 5, Strength: 9, Time: 4, Tag: "aaaaaaaa"},
		{Place: 5, Strength: 10, Time: 4, Tag: "aaaaaaaa"},
		{Place: 5, Strength: 10, Time: 4, Tag: "aaaaaaaa"}, // seen twice: told twice
		{Place: 5, Strength: 100, Time: 4, Tag: "aaaaaaaa"},
		{Place: 6, Strength: 0, Time: 4, Tag: "aaaaaaaa"},
		{Place: 3, Strength: 8, Time: 1, Tag: "aaaaaaab"},
		{Place: 2, Strength: 7, Time: 0, Tag: "aaaaaab\x00"},
		{Place: 1, Strength: 6, Time: 0, Tag: "b\x00\x00\x00\x00\x00\x00\x00"},
		{Place: 0, Strength: 5, Time: 0, Tag: "b\x7f\x7f\x7f\x7f\x7f\x7f\x7f"},
		{Place: 0, Strength: 4, Time: 0, Tag: "b\x80\x00\x00\x00\x00\x00\x00"},
		{Place: 0, Strength: 0, Time: 0, Tag: "\xff\x00\x00\x00\x00\x00\x00\x00"},
	}
}

// C2: sights are told by Tag (as bytes), then Time, Place, Strength, in whatever order they were added.
func TestOrder(t *testing.T) {
	r := rand.New(rand.NewSource(3))
	for range 300 {
		d := desk(t, 5, 0)
		tick(t, d, 4)
		l := ordered()
		for _, i := range r.Perm(len(l)) {
			add(t, d, l[i])
		}
		told(t, tick(t, d, 1), api.Epoch{Number: 0, Sights: l})
	}
}

// C2: however ticks are cut, the same epochs come of them.
func TestCutTicks(t *testing.T) {
	r := rand.New(rand.NewSource(4))
	for range 300 {
		size, late := 1+r.Intn(50), r.Intn(51)
		whole, cut := desk(t, size, late), desk(t, size, late)
		first := r.Intn(300)
		told(t, tick(t, cut, first), tick(t, whole, first)...)
		for range 50 {
			s := at(r.Intn(first + 1))
			if a, b := whole.Add(s), cut.Add(s); a != b {
				t.Fatalf("Add(%+v): %v, %v", s, a, b)
			}
		}
		n := r.Intn(500)
		var l []api.Epoch
		for left := n; left > 0; {
			k := r.Intn(min(left, 60) + 1)
			l = append(l, tick(t, cut, k)...)
			left -= k
		}
		told(t, l, tick(t, whole, n)...)
		stands(t, cut, whole.Now(), whole.Closed())
	}
}

// Z2: what comes out is the caller's: what he does to it is seen nowhere else.
func TestEpochsAreTheCallers(t *testing.T) {
	d := desk(t, 1, 9)
	tick(t, d, 9)
	for time := range 8 {
		add(t, d, at(time), at(time), at(time))
	}
	l := tick(t, d, 3)
	l[0].Sights[0], l[0].Sights[2] = api.Sight{}, api.Sight{}
	_ = append(l[0].Sights, at(100), at(100), at(100), at(100))
	_ = append(l[2].Sights[:0], at(100))
	told(t, l[1:2], api.Epoch{Number: 1, Sights: []api.Sight{at(1), at(1), at(1)}})
	_ = append(l[:0], api.Epoch{Number: 9})
	_ = append(l, api.Epoch{Number: 9}, api.Epoch{Number: 9})
	told(t, tick(t, d, 2),
		api.Epoch{Number: 3, Sights: []api.Sight{at(3), at(3), at(3)}},
		api.Epoch{Number: 4, Sights: []api.Sight{at(4), at(4), at(4)}})
	told(t, tick(t, d, 1), api.Epoch{Number: 5, Sights: []api.Sight{at(5), at(5), at(5)}})
}

// Z2: a desk keeps no piece of the text that a Tag was taken from.
func TestTagIsNotKept(t *testing.T) {
	b := []byte("some text abcdefgh that is longer")
	text := unsafe.String(&b[0], len(b))
	d := desk(t, 1, 0)
	s := sight()
	s.Tag = text[10:18]
	add(t, d, s)
	for i := range b {
		b[i] = 0
	}
	told(t, tick(t, d, 1), api.Epoch{Number: 0, Sights: []api.Sight{sight()}})
}

// Z2: desks know nothing of each other.
func TestDesksApart(t *testing.T) {
	a, b := desk(t, 2, 0), desk(t, 2, 0)
	add(t, a, at(0))
	tick(t, a, 1)
	stands(t, b, 0, 0)
	told(t, tick(t, b, 4), api.Epoch{Number: 0}, api.Epoch{Number: 1})
	told(t, tick(t, a, 1), api.Epoch{Number: 0, Sights: []api.Sight{at(0)}})
}

// Z1: many sights, those that are the same too.
func TestManySights(t *testing.T) {
	d := desk(t, 50, 50)
	tick(t, d, 49)
	const count = 1 << 17
	for i := range count {
		s := at(49 - i%50)
		s.Strength = i % 2
		add(t, d, s)
	}
	l := tick(t, d, 51)
	if len(l) != 1 || len(l[0].Sights) != count {
		t.Fatalf("%d epochs", len(l))
	}
	if s := l[0].Sights; s[0].Time != 0 || s[count-1].Time != 49 || s[count-1].Strength != 0 {
		t.Errorf("%+v to %+v", s[0], s[count-1])
	}
}

// plain: what the chapter says of a desk, by another way than the program's: all sights stand in one list, and stay there.
type plain struct {
	size, late, now int
	sights          []api.Sight
}

func (p *plain) closed() int {
	k := 0
	for isClosed(k, p.size, p.late, p.now) {
		k++
	}
	return k
}

func (p *plain) add(s api.Sight) error {
	switch {
	case s.Place < 0 || s.Place > 7 || s.Strength < 0 || s.Strength > 255 || s.Time < 0 || s.Time > p.now || len(s.Tag) != 8:
		return api.ErrBound
	case isClosed(s.Time/p.size, p.size, p.late, p.now):
		return api.ErrLate
	}
	// Put in place at once: behind all that are not above it.
	i := len(p.sights)
	for i > 0 && above(p.sights[i-1], s) {
		i--
	}
	p.sights = slices.Insert(p.sights, i, s)
	return nil
}

// above: does a come behind b, by the chapter's order?
func above(a, b api.Sight) bool {
	if a.Tag != b.Tag {
		return a.Tag > b.Tag
	}
	x, y := [3]int{a.Time, a.Place, a.Strength}, [3]int{b.Time, b.Place, b.Strength}
	return slices.Compare(x[:], y[:]) > 0
}

func (p *plain) tick(n int) ([]api.Epoch, error) {
	if n < 0 || n > 1000 || p.now+n > 1000 {
		return nil, api.ErrBound
	}
	k := p.closed()
	p.now += n
	var l []api.Epoch
	for ; isClosed(k, p.size, p.late, p.now); k++ {
		e := api.Epoch{Number: k}
		for _, s := range p.sights {
			if s.Time/p.size == k {
				e.Sights = append(e.Sights, s)
			}
		}
		l = append(l, e)
	}
	return l, nil
}

// both: does the desk answer as the plain one does?
type both struct {
	t    testing.TB
	desk *epoch.Desk
	p    plain
}

func (b *both) add(s api.Sight) {
	b.t.Helper()
	if got, want := b.desk.Add(s), b.p.add(s); !reflect.DeepEqual(got, want) {
		b.t.Fatalf("size %d, late %d, tick %d: Add(%+v): %v; %v is wanted", b.p.size, b.p.late, b.p.now, s, got, want)
	}
	stands(b.t, b.desk, b.p.now, b.p.closed())
}

func (b *both) tick(n int) {
	b.t.Helper()
	got, err := b.desk.Tick(n)
	want, wantErr := b.p.tick(n)
	if !reflect.DeepEqual(err, wantErr) {
		b.t.Fatalf("size %d, late %d, tick %d: Tick(%d): %v; %v is wanted", b.p.size, b.p.late, b.p.now, n, err, wantErr)
	}
	told(b.t, got, want...)
	stands(b.t, b.desk, b.p.now, b.p.closed())
}

// C1, C2: desks with drawn calls, right and wrong ones.
func TestDrawnDesks(t *testing.T) {
	r := rand.New(rand.NewSource(5))
	tags := []string{"tagtagaa", "tagtagab", "\xfftagtaga", "\x00tagtaga", "tagtaga"} // the last one, which is none, is drawn less
	for range 1500 {
		p := plain{size: 1 + r.Intn(8), late: r.Intn(8)}
		if r.Intn(4) == 0 {
			p.size, p.late = 1+r.Intn(50), r.Intn(51)
		}
		b := both{t, desk(t, p.size, p.late), p}
		for range 80 {
			switch r.Intn(8) {
			case 0:
				b.tick(r.Intn(2 * p.size))
			case 1:
				b.tick(r.Intn(3))
			case 2:
				if r.Intn(5) == 0 {
					b.tick(r.Intn(1100) - 50)
				}
			default:
				b.add(api.Sight{
					Place:    r.Intn(8) + r.Intn(20)/19,
					Strength: r.Intn(4) - r.Intn(20)/19,
					Time:     b.p.now - r.Intn(2*p.size+p.late+1) + r.Intn(20)/19,
					Tag:      tags[r.Intn(45)/10],
				})
			}
		}
	}
}

// Z1, C1, C2: no numbers and no Tag make a desk panic, and it answers what the chapter says.
func FuzzDesk(f *testing.F) {
	f.Add(3, 2, 4, 0, 4, 1, "abcdefghabcdefgi")
	f.Add(1, 0, 1000, 7, 255, 0, "\xff\xff\xff\xff\xff\xff\xff\xff")
	f.Add(50, 50, 999, 8, 256, 1000, "item:1.0case")
	f.Fuzz(func(t *testing.T, size, late, n, place, strength, time int, tag string) {
		d, err := epoch.New(size, late)
		if err != nil {
			if d != nil || size > 0 && size <= 50 && late >= 0 && late <= 50 {
				t.Errorf("New(%d, %d): %v, %v", size, late, d, err)
			}
			return
		}
		b := both{t, d, plain{size: size, late: late}}
		cut := min(len(tag), 8)
		b.add(api.Sight{Place: place, Strength: strength, Time: time, Tag: tag[:cut]})
		b.tick(n)
		b.add(api.Sight{Place: place, Strength: strength, Time: time, Tag: tag[:cut]})
		b.add(api.Sight{Place: place, Strength: strength, Time: b.p.now, Tag: tag[cut:]})
		b.tick(time)
		b.tick(n)
	})
}
