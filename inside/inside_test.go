package inside_test

import (
	"math"
	"math/rand"
	"reflect"
	"slices"
	"strings"
	"testing"
	"unsafe"

	"cratewatch/api"
	"cratewatch/inside"
	"cratewatch/tag"
	"cratewatch/track"
)

// far: numbers that are out of every bound.
var far = []int{math.MinInt, math.MinInt32, -65536, -256, -9, -2, 256, 257, 65536, math.MaxInt32, math.MaxInt}

// bytesOf a tag.
func bytesOf(t api.Tag) string {
	b, err := tag.Bytes(t)
	if err != nil {
		panic(err)
	}
	return b
}

// Tags: of each kind by their Serials, so that of one kind the lower one is the lower one as bytes, too.
func item(n int) string   { return bytesOf(api.Tag{Kind: api.Item, Part: 5, Serial: n}) }
func box(n int) string    { return bytesOf(api.Tag{Kind: api.Case, Part: 5, Serial: n}) }
func pallet(n int) string { return bytesOf(api.Tag{Kind: api.Pallet, Part: 5, Serial: n}) }

// pair of a track and of what is made of it.
type pair struct {
	t testing.TB
	k *track.Track
	x *inside.Inside
}

// newPair: a tag is where it was seen in the epoch itself.
func newPair(t testing.TB, span, score int) pair {
	t.Helper()
	return pairOf(t, 1, 1, span, score)
}

func pairOf(t testing.TB, window, need, span, score int) pair {
	t.Helper()
	k, err := track.New(window, need)
	if err != nil {
		t.Fatal(err)
	}
	x, err := inside.New(k, span, score)
	if err != nil || x == nil {
		t.Fatalf("New(%d, %d): %v, %v", span, score, x, err)
	}
	return pair{t, k, x}
}

// at: where each tag is seen in an epoch.
type at map[string]int

func (a at) sights() []api.Sight {
	var l []api.Sight
	for s, place := range a {
		l = append(l, api.Sight{Place: place, Strength: 1, Tag: s})
	}
	return l
}

// tell the track epochs, and look at none.
func (p pair) tell(epochs ...at) {
	p.t.Helper()
	for _, a := range epochs {
		if err := p.k.Tell(a.sights()); err != nil {
			p.t.Fatal(err)
		}
	}
}

// look at so many epochs.
func (p pair) look(count int) {
	p.t.Helper()
	for range count {
		had := p.x.Epochs()
		if !p.x.Next() || p.x.Epochs() != had+1 {
			p.t.Fatalf("Next behind %d epochs: %d", had, p.x.Epochs())
		}
	}
}

// run: tell epochs, and look at each.
func (p pair) run(epochs ...at) {
	p.t.Helper()
	for _, a := range epochs {
		p.tell(a)
		p.look(1)
	}
}

// over: is there no epoch to be looked at, and does asking change nothing?
func (p pair) over() {
	p.t.Helper()
	had := p.x.Epochs()
	for range 3 {
		if p.x.Next() || p.x.Epochs() != had {
			p.t.Fatalf("Next behind %d epochs, of %d that were told", had, p.k.Epochs())
		}
	}
}

// is: are these the tag's parents, from epoch 0 on, and are no more epochs looked at?
func (p pair) is(s string, want ...string) {
	p.t.Helper()
	for epoch, w := range want {
		if got, err := p.x.Parent(s, epoch); got != w || err != nil {
			p.t.Fatalf("Parent(%x, %d): %x, %v; %x is wanted", s, epoch, got, err, w)
		}
	}
	if p.x.Epochs() != len(want) {
		p.t.Fatalf("%d epochs; %d are wanted", p.x.Epochs(), len(want))
	}
}

// none: has it no parent in any epoch?
func (p pair) none(s string) {
	p.t.Helper()
	p.is(s, make([]string, p.x.Epochs())...)
}

// refuses: is there no such epoch?
func (p pair) refuses(s string, epoch int) {
	p.t.Helper()
	if got, err := p.x.Parent(s, epoch); got != "" || err != error(api.ErrBound) {
		p.t.Fatalf("Parent(%x, %d): %x, %v", s, epoch, got, err)
	}
}

// E1: just the spans and the scores within bounds, of a track, make one, and no epoch is looked at.
func TestNew(t *testing.T) {
	k, err := track.New(1, 1)
	if err != nil {
		t.Fatal(err)
	}
	for span := -3; span <= 12; span++ {
		for score := -3; score <= 12; score++ {
			x, err := inside.New(k, span, score)
			if right := 1 <= span && span <= 8 && 1 <= score && score <= span; right != (err == nil) {
				t.Fatalf("New(%d, %d): %v", span, score, err)
			}
			if err != nil && (x != nil || err != error(api.ErrBound)) {
				t.Fatalf("New(%d, %d): %v, %v", span, score, x, err)
			}
			if err == nil && x.Epochs() != 0 {
				t.Fatalf("New(%d, %d): %d epochs", span, score, x.Epochs())
			}
			if y, err := inside.New(nil, span, score); y != nil || err != error(api.ErrBound) {
				t.Fatalf("New(nil, %d, %d): %v, %v", span, score, y, err)
			}
		}
	}
	for _, n := range far {
		for _, c := range [][2]int{{n, 1}, {8, n}, {n, n}, {n, 0}, {0, n}} {
			for _, of := range []*track.Track{k, nil} {
				if x, err := inside.New(of, c[0], c[1]); x != nil || err != error(api.ErrBound) {
					t.Errorf("New(%d, %d): %v, %v", c[0], c[1], x, err)
				}
			}
		}
	}
}

// E1: of a track that was told epochs none is looked at, either; then each, in their order, till there are no more.
func TestNext(t *testing.T) {
	p := newPair(t, 1, 1)
	p.over()
	p.none(item(1))
	p.refuses(item(1), 0)
	p.tell(at{item(1): 3, box(1): 3}, at{}, at{item(1): 3, box(2): 3})
	p.is(item(1))
	p.refuses(item(1), 0)
	p.look(1)
	p.is(item(1), box(1))
	p.refuses(item(1), 1)
	p.look(1)
	p.is(item(1), box(1), "")
	p.look(1)
	p.is(item(1), box(1), "", box(2))
	p.over()
	p.is(item(1), box(1), "", box(2))
	p.tell(nil)
	p.is(item(1), box(1), "", box(2))
	p.look(1)
	p.over()
	p.is(item(1), box(1), "", box(2), "")

	later, err := inside.New(p.k, 1, 1)
	if err != nil || later.Epochs() != 0 {
		t.Fatalf("%v, %v", later, err)
	}
	q := pair{t, p.k, later}
	q.refuses(item(1), 0)
	q.look(4)
	q.over()
	q.is(item(1), box(1), "", box(2), "")
}

// E1, Z1: an epoch that the track refused is none.
func TestRefusedEpoch(t *testing.T) {
	p := newPair(t, 2, 1)
	p.run(at{item(1): 3, box(1): 3})
	for _, wrong := range []at{{item(1): 8, box(2): 8}, {item(1): 4, box(2): 4, box(1): -1}} {
		if err := p.k.Tell(wrong.sights()); err != error(api.ErrBound) {
			t.Fatal(err)
		}
		p.over()
		p.is(item(1), box(1))
	}
}

// E2: the document's example: 2 of 3 epochs are needed; the track's window is 2 epochs, of which 1 is needed.
func TestDocumentsInside(t *testing.T) {
	i := bytesOf(api.Tag{Kind: api.Item, Filter: 1, Part: 5, Ref: 7, Serial: 5})
	c := bytesOf(api.Tag{Kind: api.Case, Filter: 1, Part: 5, Ref: 9, Serial: 1})
	p := pairOf(t, 2, 1, 3, 2)
	sight := func(s string, place, strength int) api.Sight {
		return api.Sight{Place: place, Strength: strength, Tag: s}
	}
	for _, l := range [][]api.Sight{
		{sight(i, 0, 9), sight(c, 0, 5), sight(c, 1, 5)},
		{sight(i, 0, 9), sight(c, 0, 9)},
		{sight(i, 2, 7), sight(c, 1, 3)},
		{sight(i, 2, 7), sight(c, 1, 3)},
	} {
		if err := p.k.Tell(l); err != nil {
			t.Fatal(err)
		}
		p.look(1)
	}
	p.is(i, "", c, c, c)
	p.none(c)
}

// E2: worked out by hand: 2 of 3 epochs are needed.
func TestKnownInside(t *testing.T) {
	i, c, d, l := item(1), box(1), box(2), pallet(1)
	p := newPair(t, 3, 2)
	p.run(
		at{i: 1, c: 1, d: 1, l: 1},     // once is too few
		at{i: 1, c: 2, d: 1, l: 2},     // i: d twice, c and l once; c: l twice; d: l once
		at{i: 2, c: 2, d: 3, l: 2},     // i: c, d and l twice: d was it; c: l thrice
		at{i: 2, c: 2, d: 0, l: 4},     // i: c twice, d and l once; c: l twice
		at{i: 5, c: 5, d: 5, l: 6},     // i: c thrice; c: l once
		at{i: 5, d: 5, l: 5},           // i: c and d twice: c was it; d: l once
		at{i: 5, c: 7, d: 5, l: 5},     // i: d thrice; d: l twice
		at{i: 5, c: 7, l: 5},           // i: l thrice, d twice; d: l twice
		at{c: 7, l: 7},                 // i: l twice, d once; c: l once
		at{i: 0}, at{}, at{i: 3, l: 3}, // once is too few
	)
	p.is(i, "", d, d, c, c, c, d, l, l, "", "", "")
	p.is(c, "", l, l, l, "", "", "", "", "", "", "", "")
	p.is(d, "", "", "", "", "", "", l, l, "", "", "", "")
	p.none(l)
}

// E2: of several that were together with it most often: the one that was its parent ahead, else the lowest.
func TestWhichParent(t *testing.T) {
	i := item(1)
	low := bytesOf(api.Tag{Kind: api.Case, Filter: 0, Part: 5, Company: 9, Ref: 999999, Serial: 1<<24 - 1})
	high := bytesOf(api.Tag{Kind: api.Case, Filter: 7, Part: 0})
	cases := []struct {
		what        string
		span, score int
		epochs      []at
		want        []string
	}{
		{"alike: the lowest", 1, 1, []at{{i: 1, box(3): 1, box(2): 1, box(4): 1}}, []string{box(2)}},
		{"the lowest as bytes", 1, 1, []at{{i: 1, low: 1, high: 1}}, []string{low}},
		{"the lowest as bytes, by the last one", 1, 1, []at{{i: 1, box(255): 1, box(256): 1}}, []string{box(255)}},
		{"a case is lower than a pallet", 1, 1, []at{{i: 1, pallet(0): 1, high: 1}}, []string{high}},
		{"a pallet more often than a case", 2, 1, []at{{i: 1, pallet(9): 1, box(0): 2}, {i: 1, pallet(9): 1, box(0): 1}}, []string{pallet(9), pallet(9)}},
		{"it was the parent ahead, and is higher", 1, 1, []at{{i: 1, box(3): 1}, {i: 1, box(2): 1, box(3): 1, box(4): 1}}, []string{box(3), box(3)}},
		{"it was the parent ahead, but was together less often", 2, 1, []at{{i: 1, box(3): 1, box(4): 1}, {i: 1, box(4): 1}}, []string{box(3), box(4)}},
		{"it was the parent ahead, and is lower", 1, 1, []at{{i: 1, box(3): 1}, {i: 1, box(3): 1, box(4): 1}}, []string{box(3), box(3)}},
		{"it was the parent two ahead", 1, 1, []at{{i: 1, box(3): 1}, {i: 1}, {i: 1, box(2): 1, box(3): 1}}, []string{box(3), "", box(2)}},
		{"another one was the parent in between", 1, 1, []at{{i: 1, box(4): 1}, {i: 1, box(3): 1}, {i: 1, box(2): 1, box(3): 1, box(4): 1}}, []string{box(4), box(3), box(3)}},
		{"the parent ahead is gone: the lowest", 1, 1, []at{{i: 1, box(5): 1}, {i: 1, box(3): 1, box(2): 1, box(5): 2}}, []string{box(5), box(2)}},
		{"a parent of another one ahead tells nothing", 1, 1, []at{{item(2): 1, box(3): 1}, {item(2): 1, i: 1, box(2): 1, box(3): 1}}, []string{"", box(2)}},
		{"it stays the parent while it is one of them", 2, 1, []at{{i: 1, box(3): 1}, {i: 1, box(2): 1}, {i: 1, box(2): 1}}, []string{box(3), box(3), box(2)}},
		{"no longer as often as need be", 3, 2, []at{{i: 1, box(3): 1}, {i: 1, box(3): 1}, {i: 1}, {i: 1}}, []string{"", box(3), box(3), ""}},
		{"not at the same time", 2, 1, []at{{i: 1, box(3): 2}, {i: 2, box(3): 1}}, []string{"", ""}},
		{"at other places in turn", 3, 3, []at{{i: 1, box(3): 1}, {i: 0, box(3): 0}, {i: 7, box(3): 7}}, []string{"", "", box(3)}},
	}
	for _, c := range cases {
		p := newPair(t, c.span, c.score)
		p.run(c.epochs...)
		for epoch, want := range c.want {
			if got, err := p.x.Parent(i, epoch); got != want || err != nil {
				t.Errorf("%s: epoch %d: %x, %v; %x is wanted", c.what, epoch, got, err, want)
			}
		}
	}
}

// E2: just one of a greater Kind is a parent.
func TestKinds(t *testing.T) {
	kinds := []func(int) string{item, box, pallet}
	for a, child := range kinds {
		for b, parent := range kinds {
			for _, serials := range [][2]int{{1, 2}, {2, 1}} {
				p := newPair(t, 1, 1)
				s, over := child(serials[0]), parent(serials[1])
				p.run(at{s: 4, over: 4})
				if b > a {
					p.is(s, over)
				} else {
					p.none(s)
				}
				if a > b {
					p.is(over, s)
				} else {
					p.none(over)
				}
			}
		}
	}
	p := newPair(t, 1, 1)
	p.run(at{item(1): 0, item(2): 0, box(1): 0, box(2): 0, pallet(1): 0, pallet(2): 0})
	p.is(item(1), box(1))
	p.is(item(2), box(1))
	p.is(box(1), pallet(1))
	p.is(box(2), pallet(1))
	p.none(pallet(1))
	p.none(pallet(2))
}

// notTags: texts that a track takes, but that are no tags.
func notTags() []string {
	c := box(0)
	return []string{
		"", "a", c[:7], c + "\x00", c[1:] + "0", "case:0.0.000000.0",
		"\x2f" + c[1:], "\x33" + c[1:], "\xff" + c[1:], "\x00" + c[1:], // no Kind
		c[:1] + "\x18" + c[2:], c[:1] + "\x1c" + c[2:], // no Part
		c[:1] + "\x16\x80" + c[3:], c[:1] + "\x17" + c[2:], // a Company of more than a digit
		strings.Repeat("\xff", 8), strings.Repeat("\x00", 8), strings.Repeat("2", 1<<12),
	}
}

// E2: what is no tag has no parent, and is none.
func TestNoTags(t *testing.T) {
	for _, s := range notTags() {
		if _, err := tag.Parse(s); err == nil {
			t.Fatalf("%x is a tag", s)
		}
		p := newPair(t, 2, 1)
		p.run(at{s: 1, item(1): 1}, at{s: 1, item(1): 1, pallet(1): 1})
		p.is(item(1), "", pallet(1))
		p.none(s)
		p.none(pallet(1))
	}
	p := newPair(t, 1, 1)
	all := at{item(1): 2, box(1): 2}
	for _, s := range notTags() {
		all[s] = 2
	}
	p.run(all)
	p.is(item(1), box(1))
	p.none(box(1))
	for _, s := range notTags() {
		p.none(s)
	}
}

// E2: two that are nowhere are not together, and there is no place at which two can't be.
func TestPlaces(t *testing.T) {
	for a := -1; a < api.Places; a++ {
		for b := -1; b < api.Places; b++ {
			p := newPair(t, 1, 1)
			p.run(at{item(1): 1, box(1): 2}) // both are known
			now := at{}
			if a >= 0 {
				now[item(1)] = a
			}
			if b >= 0 {
				now[box(1)] = b
			}
			p.run(now)
			if a == b && a >= 0 {
				p.is(item(1), "", box(1))
			} else {
				p.none(item(1))
			}
			p.none(box(1))
		}
	}
}

// E2: together is told by where the track says that they are, not by where they were seen.
func TestSmoothed(t *testing.T) {
	p := pairOf(t, 3, 2, 1, 1)
	i, c := item(1), box(1)
	p.run(at{i: 4, c: 4}, at{i: 4, c: 5}, at{i: 5, c: 4}, at{i: 5, c: 5}, at{c: 5}, at{}, at{i: 5, c: 5}, at{})
	for epoch, want := range [][2]int{{-1, -1}, {4, -1}, {4, 4}, {5, 5}, {5, 5}, {-1, 5}, {-1, 5}, {-1, -1}} {
		a, _ := p.k.Where(i, epoch)
		b, _ := p.k.Where(c, epoch)
		if a != want[0] || b != want[1] {
			t.Fatalf("epoch %d: %d, %d", epoch, a, b)
		}
	}
	p.is(i, "", "", c, c, c, "", "", "")
}

// E2: of each span and score: it is in the other one just while the span holds enough of the epochs in which both were together.
func TestEachSpan(t *testing.T) {
	const epochs = 11
	for span := 1; span <= api.MaxWindow; span++ {
		for score := 1; score <= span; score++ {
			for pattern := 1; pattern < 1<<epochs; pattern += 5 {
				p := newPair(t, span, score)
				var want []string
				for e := range epochs {
					p.run(at{item(1): 1, box(1): pattern >> e & 1})
					count := 0
					for ahead := range span {
						if e >= ahead {
							count += pattern >> (e - ahead) & 1
						}
					}
					if count >= score {
						want = append(want, box(1))
					} else {
						want = append(want, "")
					}
				}
				p.is(item(1), want...)
			}
		}
	}
}

// E2: ErrBound of epochs that were not looked at, told or not, of any text; of others a text that never was told has no parent.
func TestParentErrors(t *testing.T) {
	p := newPair(t, 1, 1)
	texts := append(notTags(), item(1), box(1), pallet(1), item(9))
	for looked := range 4 {
		p.tell(at{item(1): 1, box(1): 1}, at{item(1): 2, box(1): 2})
		for _, s := range texts {
			for _, epoch := range append(far, -1, looked, looked+1, 2*looked, 2*looked+1, 2*looked+2) {
				if epoch < 0 || epoch >= looked {
					p.refuses(s, epoch)
				}
			}
			if s != item(1) {
				p.none(s)
			}
		}
		p.is(item(1), slices.Repeat([]string{box(1)}, looked)...)
		p.look(1)
	}
}

// E2, Z2: when epochs are looked at tells nothing, and what is told later changes nothing of what was.
func TestLookedAtLater(t *testing.T) {
	r := rand.New(rand.NewSource(6))
	for range 300 {
		window, span := 1+r.Intn(3), 1+r.Intn(5)
		need, score := 1+r.Intn(window), 1+r.Intn(span)
		soon, late, between := pairOf(t, window, need, span, score), pairOf(t, window, need, span, score), pairOf(t, window, need, span, score)
		answers := map[string][]string{}
		for e := range 12 {
			l := drawn(r, 6)
			for _, p := range []pair{soon, late, between} {
				if err := p.k.Tell(l); err != nil {
					t.Fatal(err)
				}
			}
			soon.look(1)
			if r.Intn(3) == 0 {
				between.look(r.Intn(between.k.Epochs() - between.x.Epochs() + 1))
			}
			for _, s := range someTags() {
				got, err := soon.x.Parent(s, e)
				if err != nil {
					t.Fatal(err)
				}
				answers[s] = append(answers[s], got)
				soon.is(s, answers[s]...)
				between.is(s, answers[s][:between.x.Epochs()]...)
			}
		}
		late.look(12)
		between.look(12 - between.x.Epochs())
		for s, want := range answers {
			soon.is(s, want...)
			late.is(s, want...)
			between.is(s, want...)
		}
	}
}

// Z2: a tag that is handed in is not kept, nor is a text of which it is a piece.
func TestTagIsNotKept(t *testing.T) {
	b := []byte("some " + item(1) + " text " + box(1) + " that is longer")
	text := unsafe.String(&b[0], len(b))
	i, c := text[5:13], text[19:27]
	p := newPair(t, 1, 1)
	p.run(at{strings.Clone(i): 1, strings.Clone(c): 1})
	sights := []api.Sight{{Place: 2, Tag: i}, {Place: 2, Tag: c}}
	if err := p.k.Tell(sights); err != nil {
		t.Fatal(err)
	}
	p.look(1)
	p.is(i, box(1), box(1))
	p.none(c)
	got, err := p.x.Parent(i, 1)
	for n := range b {
		b[n] = 0
	}
	p.is(item(1), box(1), box(1))
	p.none(box(1))
	p.none(text[5:13])
	if got != box(1) || err != nil {
		t.Errorf("%x, %v", got, err)
	}
}

// Z2: two of one track know nothing of each other, nor do two of two tracks; looking changes nothing of the track.
func TestInsidesApart(t *testing.T) {
	p := newPair(t, 2, 1)
	y, err := inside.New(p.k, 2, 2)
	if err != nil {
		t.Fatal(err)
	}
	q := pair{t, p.k, y}
	other := newPair(t, 2, 1)
	p.tell(at{item(1): 1, box(1): 1}, at{item(1): 2, box(1): 2})
	other.tell(at{item(1): 1, box(2): 1})
	p.look(2)
	p.is(item(1), box(1), box(1))
	q.is(item(1))
	q.refuses(item(1), 0)
	other.is(item(1))
	q.look(2)
	q.is(item(1), "", box(1))
	other.look(1)
	other.over()
	other.is(item(1), box(2))
	p.is(item(1), box(1), box(1))
	if n := p.k.Epochs(); n != 2 {
		t.Errorf("%d epochs", n)
	}
	for e, want := range []int{1, 2} {
		if place, err := p.k.Where(item(1), e); place != want || err != nil {
			t.Errorf("epoch %d: %d, %v", e, place, err)
		}
	}
}

// E1, Z1: epochs may be looked at while the track's tags are gone over.
func TestNextWithinTags(t *testing.T) {
	p := newPair(t, 1, 1)
	p.tell(at{item(1): 1, box(1): 1}, at{item(1): 2, pallet(1): 2}, at{})
	for range p.k.Tags() {
		p.look(1)
	}
	p.over()
	p.is(item(1), box(1), pallet(1), "")
}

// Z1: many epochs, and many tags in one.
func TestMany(t *testing.T) {
	p := newPair(t, 8, 8)
	for range 1 << 14 {
		p.run(nil)
	}
	all := at{pallet(1): 7}
	for n := range 300 {
		all[item(n)], all[box(n)] = n%7, n%7
	}
	for range 9 {
		p.run(all)
	}
	last := p.x.Epochs() - 1
	for n := range 300 {
		for epoch := last - 9; epoch <= last; epoch++ {
			want := ""
			if epoch >= last-1 {
				want = box(n % 7)
			}
			if got, err := p.x.Parent(item(n), epoch); got != want || err != nil {
				t.Fatalf("item %d, epoch %d of %d: %x, %v", n, epoch, last, got, err)
			}
		}
	}
	p.none(pallet(1))
}

// plain: what the chapter says of who is in whom, by another way than the program's: it keeps nothing but the track, and works each answer out anew.
type plain struct {
	k           *track.Track
	span, score int
	looked      int
}

func (p *plain) next() bool {
	if p.looked == p.k.Epochs() {
		return false
	}
	p.looked++
	return true
}

func (p *plain) together(a, b string, epoch int) bool {
	x, err := p.k.Where(a, epoch)
	y, err2 := p.k.Where(b, epoch)
	return err == nil && err2 == nil && x == y && x != -1
}

func (p *plain) count(a, b string, epoch int) int {
	n := 0
	for ahead := 0; ahead < p.span && ahead <= epoch; ahead++ {
		if p.together(a, b, epoch-ahead) {
			n++
		}
	}
	return n
}

// over: the tags of greater Kinds that were together with it as often as need be.
func (p *plain) over(s string, epoch int) []string {
	t, err := tag.Parse(s)
	if err != nil {
		return nil
	}
	var l []string
	for other := range p.k.Tags() {
		if o, err := tag.Parse(other); err == nil && o.Kind > t.Kind && p.count(s, other, epoch) >= p.score {
			l = append(l, other)
		}
	}
	return l
}

// parent, from epoch 0 on.
func (p *plain) parent(s string, epoch int) (string, error) {
	if epoch < 0 || epoch >= p.looked {
		return "", api.ErrBound
	}
	last := ""
	for e := range epoch + 1 {
		l := p.over(s, e)
		most := 0
		for _, o := range l {
			most = max(most, p.count(s, o, e))
		}
		l = slices.DeleteFunc(l, func(o string) bool { return p.count(s, o, e) < most })
		if slices.Contains(l, last) {
			continue
		}
		last = ""
		if len(l) > 0 {
			last = slices.Min(l)
		}
	}
	return last, nil
}

// both: does the program answer as the plain one does?
type both struct {
	pair
	p plain
}

func bothOf(t testing.TB, window, need, span, score int) both {
	p := pairOf(t, window, need, span, score)
	return both{p, plain{k: p.k, span: span, score: score}}
}

func (b *both) next() {
	b.t.Helper()
	if got, want := b.x.Next(), b.p.next(); got != want || b.x.Epochs() != b.p.looked {
		b.t.Fatalf("Next: %t, %d epochs; %t, %d is wanted", got, b.x.Epochs(), want, b.p.looked)
	}
}

func (b *both) ask(s string, epoch int) {
	b.t.Helper()
	got, err := b.x.Parent(s, epoch)
	want, wantErr := b.p.parent(s, epoch)
	if got != want || !reflect.DeepEqual(err, wantErr) {
		b.t.Fatalf("span %d, score %d: Parent(%x, %d): %x, %v; %x, %v is wanted", b.p.span, b.p.score, s, epoch, got, err, want, wantErr)
	}
	if want != "" {
		b.holds(s, want, epoch)
	}
}

// W4: who is in whom is smaller, and both were together as often as need be.
func (b *both) holds(s, parent string, epoch int) {
	b.t.Helper()
	in, err := tag.Parse(s)
	over, err2 := tag.Parse(parent)
	if err != nil || err2 != nil || in.Kind >= over.Kind {
		b.t.Fatalf("epoch %d: %x is in %x", epoch, s, parent)
	}
	if n := b.p.count(s, parent, epoch); n < b.p.score {
		b.t.Fatalf("epoch %d: %x is in %x, with which it was together %d times", epoch, s, parent, n)
	}
}

// someTags that are drawn, and two that never are.
func someTags() []string {
	return []string{item(1), item(2), box(1), box(2), box(3), pallet(1), pallet(2), "no tag", box(0)[:7], item(7), "never"}
}

// drawn: sights of a few tags, most of them at two places, so that many are alike.
func drawn(r *rand.Rand, most int) []api.Sight {
	var l []api.Sight
	for range r.Intn(most) {
		s := api.Sight{Place: r.Intn(2), Strength: r.Intn(2), Tag: someTags()[r.Intn(9)]}
		if r.Intn(10) == 0 {
			s.Place, s.Strength = r.Intn(8), r.Intn(256)
		}
		l = append(l, s)
	}
	return l
}

// E1, E2, W4: drawn tracks, asked while they are told, and behind it.
func TestDrawnInsides(t *testing.T) {
	r := rand.New(rand.NewSource(7))
	for range 500 {
		window, span := 1+r.Intn(3), 1+r.Intn(8)
		b := bothOf(t, window, 1+r.Intn(window), span, 1+r.Intn(min(span, 1+r.Intn(8))))
		for range r.Intn(14) {
			if err := b.k.Tell(drawn(r, 12)); err != nil {
				t.Fatal(err)
			}
			for range r.Intn(3) {
				b.next()
			}
			b.ask(someTags()[r.Intn(11)], r.Intn(16)-1)
		}
		for _, s := range someTags() {
			for epoch := -1; epoch <= b.k.Epochs(); epoch++ {
				b.ask(s, epoch)
			}
		}
	}
}

// Z1, E1, E2: no numbers and no text make it panic, and it answers what the chapter says.
func FuzzInside(f *testing.F) {
	f.Add(3, 2, 0, item(1)+box(1)+pallet(1))
	f.Add(1, 1, 1, "\xff\x00")
	f.Add(8, 8, 1000, "")
	f.Fuzz(func(t *testing.T, span, score, epoch int, text string) {
		k, err := track.New(2, 1)
		if err != nil {
			t.Fatal(err)
		}
		x, err := inside.New(k, span, score)
		if err != nil {
			if x != nil || err != error(api.ErrBound) || span > 0 && span <= 8 && score > 0 && score <= span {
				t.Errorf("New(%d, %d): %v, %v", span, score, x, err)
			}
			return
		}
		b := both{pair{t, k, x}, plain{k: k, span: span, score: score}}
		texts := append(someTags(), text, text[:min(8, len(text))], text[max(0, len(text)-8):])
		for i := range min(len(text), 16) { // a byte is an epoch of two tags at one place, and of one that is drawn by its place
			n := int(text[i])
			l := []api.Sight{{Place: n & 1, Tag: texts[n>>1&7]}, {Place: n & 1, Tag: texts[n>>4&7]}, {Place: i & 1, Tag: texts[i%len(texts)]}}
			if err := k.Tell(l); err != nil {
				t.Fatal(err)
			}
			if n>>7 == 0 || i%3 == 0 {
				b.next()
			}
		}
		for _, s := range texts {
			b.ask(s, epoch)
			for e := range k.Epochs() + 1 {
				b.ask(s, e)
			}
		}
	})
}
