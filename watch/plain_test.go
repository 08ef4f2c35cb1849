package watch_test

import (
	"fmt"
	"math/rand"
	"slices"
	"strings"
	"testing"

	"cratewatch/api"
	"cratewatch/watch"
)

// plain: a watch by another way: all bytes and all sights are kept, and whatever is asked is worked out of them anew.
type plain struct {
	c      api.Config
	rules  []api.Rule
	now    int
	bytes  [4]string
	frames [4]int
	lost   [4]int
	warm   [4]int
	sights []api.Sight
	known  []string
	drops  api.Drops
}

func newPlain(c api.Config, l []api.Rule) *plain {
	return &plain{c: c, rules: l, warm: [4]int{-1, -1, -1, -1}}
}

// plainFrame: how many bytes of s are a frame at its beginning.
func plainFrame(s string) int {
	if len(s) < 4 || s[0] != 165 || s[1] > 44 || len(s) < 4+int(s[1]) {
		return 0
	}
	n := 4 + int(s[1])
	sum := 0
	for i := range n {
		sum += int(s[i])
	}
	fits := s[2] == 1 && s[1]%11 == 0 || s[2] == 2 && s[1] == 0 || s[2] == 3 && s[1] == 1
	for i := 3; s[2] == 1 && i < n-1; i += 11 {
		fits = fits && s[i] < 4
	}
	if sum%256 != 255 || !fits {
		return 0
	}
	return n
}

// plainFrames: the frames of s, from its beginning on, and how many bytes of it are lost.
func plainFrames(s string) (made []string, lost int) {
	for s != "" {
		if n := plainFrame(s); n > 0 {
			made, s = append(made, s[:n]), s[n:]
			continue
		}
		if s[0] == 165 && (len(s) == 1 || s[1] <= 44 && len(s) < 4+int(s[1])) {
			break
		}
		lost, s = lost+1, s[1:]
	}
	return made, lost
}

func plainTag(s string) bool {
	var n uint64
	for i := range 8 {
		n = n*256 + uint64(s[i])
	}
	part := n >> 50 & 7
	if kind := n >> 56; kind < 48 || kind > 50 || part > 5 {
		return false
	}
	refBits := []uint64{6, 9, 12, 16, 19, 22}[part]
	companies := []uint64{1000000, 100000, 10000, 1000, 100, 10}[part]
	refs := 10000000 / companies
	both := n >> 24 & (1<<26 - 1)
	return both>>refBits < companies && both&(1<<refBits-1) < refs
}

func (p *plain) feed(reader int, s string) int {
	p.bytes[reader] += s
	made, lost := plainFrames(p.bytes[reader])
	count := len(made) - p.frames[reader]
	for _, f := range made[p.frames[reader]:] {
		p.hear(reader, f)
	}
	p.frames[reader], p.lost[reader] = len(made), lost
	return count
}

func (p *plain) hear(reader int, f string) {
	if f[2] == 3 {
		p.warm[reader] = int(f[3])
	}
	for i := 3; f[2] == 1 && i < len(f)-1; i += 11 {
		p.read(p.c.Where[reader][f[i]], int(f[i+1]), int(f[i+2]), f[i+3:i+11])
	}
}

func (p *plain) read(place, strength, age int, s string) {
	time := p.now - age
	has := slices.Contains(p.known, s)
	if !plainTag(s) {
		p.drops.Bad++
	} else if place == -1 {
		p.drops.Nowhere++
	} else if !has && len(p.known) == 12 {
		p.drops.Full++
	} else if time < 0 || p.isClosed(time/p.c.Len) {
		p.drops.Late++
	} else {
		p.sights = append(p.sights, api.Sight{Place: place, Strength: strength, Time: time, Tag: s})
		if !has {
			p.known = append(p.known, s)
		}
	}
}

func (p *plain) isClosed(epoch int) bool { return (epoch+1)*p.c.Len+p.c.Late <= p.now }

func (p *plain) epochs() int {
	n := 0
	for p.isClosed(n) {
		n++
	}
	return n
}

// toldIn: the tags of which a sight was told, up to that epoch, by bytes.
func (p *plain) toldIn(epoch int) []string {
	var l []string
	for _, s := range p.known {
		if slices.ContainsFunc(p.sights, func(x api.Sight) bool { return x.Tag == s && x.Time/p.c.Len <= epoch }) {
			l = append(l, s)
		}
	}
	slices.Sort(l)
	return l
}

// place of a tag in an epoch (-1: nowhere, or no such epoch).
func (p *plain) place(s string, epoch int) int {
	best, most, strongest := -1, p.c.Need, -1
	for place := range 8 {
		seen := map[int]bool{}
		sum := 0
		for _, x := range p.sights {
			e := x.Time / p.c.Len
			if x.Tag == s && x.Place == place && e <= epoch && e > epoch-p.c.Window {
				seen[e] = true
				sum += x.Strength
			}
		}
		if len(seen) > most || len(seen) == most && sum > strongest {
			best, most, strongest = place, len(seen), sum
		}
	}
	return best
}

// places: of each tag where it is in each epoch that is closed.
func (p *plain) places() map[string][]int {
	all := map[string][]int{}
	for _, s := range p.known {
		for epoch := range p.epochs() {
			all[s] = append(all[s], p.place(s, epoch))
		}
	}
	return all
}

// parents: of each tag whom it is in, in each epoch that is closed.
func (p *plain) parents(places map[string][]int) map[string][]string {
	all := map[string][]string{}
	for epoch := range p.epochs() {
		for _, s := range p.known {
			best, most := "", p.c.Score-1
			for _, other := range p.toldIn(epoch) {
				if other[0] <= s[0] {
					continue
				}
				count := 0
				for e := max(0, epoch-p.c.Span+1); e <= epoch; e++ {
					if places[s][e] >= 0 && places[s][e] == places[other][e] {
						count++
					}
				}
				was := epoch > 0 && all[s][epoch-1] == other
				if count > most || count == most && best != "" && was {
					best, most = other, count
				}
			}
			all[s] = append(all[s], best)
		}
	}
	return all
}

// came to a place, as a list of places tells?
func came(places []int, place, epoch int) bool {
	return places[epoch] == place && (epoch == 0 || places[epoch-1] != place)
}

// plainHolds: does a rule hold of a tag that was at these places?
func plainHolds(r api.Rule, s string, places []int, epoch int) bool {
	if r.Kind != 0 && int(s[0])-47 != r.Kind || !came(places, r.Then, epoch) {
		return false
	}
	for e := range epoch {
		if epoch-e <= r.Within && came(places, r.First, e) && (r.Without == -1 || !slices.Contains(places[e+1:epoch], r.Without)) {
			return true
		}
	}
	return false
}

func (p *plain) alerts(places map[string][]int) []api.Alert {
	var l []api.Alert
	for epoch := range p.epochs() {
		for i, r := range p.rules {
			for _, s := range p.toldIn(epoch) {
				if plainHolds(r, s, places[s], epoch) {
					l = append(l, api.Alert{Rule: i, Epoch: epoch, Tag: s})
				}
			}
		}
	}
	return l
}

// told: all that the watch should tell, of these tags.
func (p *plain) told(tags []string) string {
	drops := p.drops
	for _, n := range p.lost {
		drops.Bytes += n
	}
	var b strings.Builder
	fmt.Fprintf(&b, "tick %d, epochs %d, %+v\n", p.now, p.epochs(), drops)
	fmt.Fprintf(&b, "warm -1: 0 %v\n", api.ErrBound)
	for reader, n := range p.warm {
		fmt.Fprintf(&b, "warm %d: %d <nil>\n", reader, n)
	}
	fmt.Fprintf(&b, "warm 4: 0 %v\n", api.ErrBound)
	places := p.places()
	parents := p.parents(places)
	for _, a := range p.alerts(places) {
		fmt.Fprintf(&b, "alert %d %d %x\n", a.Rule, a.Epoch, a.Tag)
	}
	last := p.toldIn(p.epochs() - 1)
	for _, s := range tags {
		for epoch := -1; epoch <= p.epochs(); epoch++ {
			if epoch < 0 || epoch == p.epochs() {
				fmt.Fprintf(&b, "%x %d: 0 %v  %v\n", s, epoch, api.ErrBound, api.ErrBound)
			} else if !slices.Contains(last, s) {
				fmt.Fprintf(&b, "%x %d: 0 %v  %v\n", s, epoch, api.ErrNone, api.ErrNone)
			} else {
				fmt.Fprintf(&b, "%x %d: %d <nil> %x <nil>\n", s, epoch, places[s][epoch], parents[s][epoch])
			}
		}
	}
	return b.String()
}

// some tags, of all Kinds.
func some(count int) []string {
	var l []string
	for i := range count {
		l = append(l, bytesOf(api.Tag{Kind: 1 + i%3, Part: 5, Serial: i / 3}))
	}
	return l
}

func drawnConfig(r *rand.Rand) api.Config {
	c := api.Config{Len: []int{1, 1, 1 + r.Intn(4)}[r.Intn(3)], Late: r.Intn(5), Window: 1 + r.Intn(4), Span: 1 + r.Intn(4)}
	c.Need, c.Score = 1+r.Intn(c.Window), 1+r.Intn(c.Span)
	for i := range c.Where {
		for k := range c.Where[i] {
			c.Where[i][k] = []int{k % 3, k % 3, i % 3, r.Intn(9) - 1}[r.Intn(4)]
		}
	}
	return c
}

func drawnRules(r *rand.Rand) []api.Rule {
	var l []api.Rule
	for i := range r.Intn(7) {
		places := r.Perm(3)
		rule := api.Rule{Name: string(rune('z' - i)), Kind: r.Intn(4), First: places[0], Then: places[1], Without: places[2], Within: []int{1, 2, 1 + r.Intn(20)}[r.Intn(3)]}
		if r.Intn(2) == 0 {
			rule.Without = -1
		}
		l = append(l, rule)
	}
	return l
}

// drawnBytes: a frame, or something near one.
func drawnBytes(r *rand.Rand, tags []string) string {
	f := api.Frame{Type: api.Reads}
	for range r.Intn(5) {
		s := tags[r.Intn(len(tags))]
		if r.Intn(30) == 0 {
			s = "\x00" + s[1:]
		}
		f.Reads = append(f.Reads, api.Read{Antenna: r.Intn(4), Strength: r.Intn(4), Age: []int{0, 0, r.Intn(6), r.Intn(256)}[r.Intn(4)], Tag: s})
	}
	switch r.Intn(12) {
	case 0:
		f = api.Frame{Type: api.Warm, Warm: r.Intn(256)}
	case 1:
		f = api.Frame{Type: api.Alive}
	}
	b := []byte(written(f))
	switch r.Intn(16) {
	case 0:
		b[r.Intn(len(b))] ^= 1 << r.Intn(8)
	case 1:
		b = b[:r.Intn(len(b))]
	case 2:
		b = append(b, byte(r.Intn(256)), 165)
	}
	return string(b)
}

// G1 to G3, W1: drawn readers, against the plain way.
func TestDrawnWatches(t *testing.T) {
	r := rand.New(rand.NewSource(7))
	alerts := 0
	for range 250 {
		c, l := drawnConfig(r), drawnRules(r)
		w, err := watch.New(c, l)
		if err != nil {
			t.Fatalf("New(%+v, %+v): %v", c, l, err)
		}
		p := newPlain(c, l)
		tags := some([]int{2, 5, 12, 16}[r.Intn(4)])
		for range 200 {
			if r.Intn(4) == 0 {
				had, n := p.epochs(), r.Intn(3)
				p.now += n
				if got, err := w.Tick(n); got != p.epochs()-had || err != nil {
					t.Fatalf("Tick(%d): %d, %v; %d is wanted", n, got, err, p.epochs()-had)
				}
				continue
			}
			reader, s := r.Intn(4), drawnBytes(r, tags)
			want := p.feed(reader, s)
			if n, err := w.Feed(reader, s); n != want || err != nil {
				t.Fatalf("Feed(%d, %x): %d, %v; %d is wanted", reader, s, n, err, want)
			}
		}
		tags = append(tags, "", "x", "\x00"+tags[0][1:])
		if got, want := told(w, tags), p.told(tags); got != want {
			t.Fatalf("%+v, %+v: %s", c, l, differs(got, want))
		}
		alerts += len(w.Alerts())
	}
	if alerts < 300 {
		t.Errorf("only %d alerts were drawn", alerts)
	}
}

// step of a drawn time: what each reader says in it, and how many ticks go by behind it.
type step struct {
	bytes [4]string
	ticks int
}

func drawnSteps(r *rand.Rand, tags []string) []step {
	var l []step
	for range 25 {
		s := step{ticks: 1 + r.Intn(3)}
		for reader := range s.bytes {
			for range r.Intn(4) {
				s.bytes[reader] += drawnBytes(r, tags)
			}
		}
		l = append(l, s)
	}
	return l
}

// played: what a watch tells behind these steps, each step's bytes being fed by the given way.
func played(t *testing.T, c api.Config, l []api.Rule, steps []step, tags []string, feed func(*watch.Watch, [4]string)) string {
	t.Helper()
	w, err := watch.New(c, l)
	if err != nil {
		t.Fatal(err)
	}
	for _, s := range steps {
		feed(w, s.bytes)
		w.Tick(s.ticks)
	}
	return told(w, tags)
}

func whole(w *watch.Watch, bytes [4]string) {
	for reader, s := range bytes {
		w.Feed(reader, s)
	}
}

// W1: however the bytes of a reader are cut, the same comes of them, also where there are more tags than may be known.
func TestCutsTellNothing(t *testing.T) {
	r := rand.New(rand.NewSource(8))
	singly := func(w *watch.Watch, bytes [4]string) {
		for reader, s := range bytes {
			for i := range len(s) {
				w.Feed(reader, s[i:i+1])
			}
		}
	}
	cut := func(w *watch.Watch, bytes [4]string) {
		for reader, s := range bytes {
			for s != "" {
				n := 1 + r.Intn(min(len(s), 40))
				w.Feed(reader, s[:n])
				w.Feed(reader, "")
				s = s[n:]
			}
		}
	}
	for range 40 {
		c, l, tags := drawnConfig(r), drawnRules(r), some(6+r.Intn(10))
		steps := drawnSteps(r, tags)
		want := played(t, c, l, steps, tags, whole)
		for _, feed := range []func(*watch.Watch, [4]string){singly, cut, cut} {
			if got := played(t, c, l, steps, tags, feed); got != want {
				t.Fatalf("%+v, %+v: %s", c, l, differs(got, want))
			}
		}
	}
}

// W2: within a tick it tells nothing which reader's bytes come first, with as many tags as may be known.
func TestOrderTellsNothing(t *testing.T) {
	r := rand.New(rand.NewSource(9))
	turned := func(w *watch.Watch, bytes [4]string) {
		for _, reader := range r.Perm(4) {
			w.Feed(reader, bytes[reader])
		}
	}
	mixed := func(w *watch.Watch, bytes [4]string) {
		for bytes != [4]string{} {
			reader := r.Intn(4)
			n := r.Intn(min(len(bytes[reader]), 40) + 1)
			w.Feed(reader, bytes[reader][:n])
			bytes[reader] = bytes[reader][n:]
		}
	}
	for range 60 {
		c, l, tags := drawnConfig(r), drawnRules(r), some(3+r.Intn(10))
		steps := drawnSteps(r, tags)
		want := played(t, c, l, steps, tags, whole)
		for _, feed := range []func(*watch.Watch, [4]string){turned, turned, mixed, mixed} {
			if got := played(t, c, l, steps, tags, feed); got != want {
				t.Fatalf("%+v, %+v: %s", c, l, differs(got, want))
			}
		}
	}
}

// byWhere: the alerts that there should be, as a watch itself tells where tags were.
func byWhere(t *testing.T, w *watch.Watch, l []api.Rule, tags []string) []api.Alert {
	t.Helper()
	places := map[string][]int{}
	for _, s := range tags {
		for epoch := range w.Epochs() {
			place, err := w.Where(s, epoch)
			if err != nil {
				place = -1
			}
			places[s] = append(places[s], place)
		}
	}
	var want []api.Alert
	for epoch := range w.Epochs() {
		for i, r := range l {
			for _, s := range slices.Sorted(slices.Values(tags)) {
				if plainHolds(r, s, places[s], epoch) {
					want = append(want, api.Alert{Rule: i, Epoch: epoch, Tag: s})
				}
			}
		}
	}
	return want
}

// W3: there is an alert just where a rule holds of where the tag was, as the watch tells it, at any time.
func TestAlertsByWhere(t *testing.T) {
	r := rand.New(rand.NewSource(10))
	for range 60 {
		c, l, tags := drawnConfig(r), drawnRules(r), some(3+r.Intn(12))
		w, err := watch.New(c, l)
		if err != nil {
			t.Fatal(err)
		}
		for _, s := range drawnSteps(r, tags) {
			whole(w, s.bytes)
			w.Tick(s.ticks)
			if got, want := w.Alerts(), byWhere(t, w, l, tags); !slices.Equal(got, want) {
				t.Fatalf("%+v, %+v: alerts %x; %x is wanted", c, l, got, want)
			}
		}
	}
}

// Z1: as much as may be: all ticks, tags, readers and rules.
func TestMany(t *testing.T) {
	r := rand.New(rand.NewSource(11))
	var texts [30]string
	for i := range texts {
		for len(texts[i]) < 1500 {
			texts[i] += drawnBytes(r, some(14))
		}
	}
	for _, c := range []api.Config{{Len: 1, Window: 8, Need: 1, Span: 8, Score: 1}, {Len: 50, Late: 50, Window: 8, Need: 8, Span: 8, Score: 8}, {Len: 3, Late: 50, Window: 8, Need: 3, Span: 8, Score: 2}} {
		c.Where = easy().Where
		w := newWatch(t, c, "a: any 0 then 1 within 50", "b: item 1 then 0 within 50", "c: case 0 then 1 without 2 within 50", "d: pallet 3 then 1 within 50", "e: any 2 then 3 without 0 within 50", "f: any 7 then 0 within 1")
		for range 1000 {
			for reader := range 4 {
				if _, err := w.Feed(reader, texts[r.Intn(len(texts))]); err != nil {
					t.Fatal(err)
				}
			}
			w.Tick(1)
		}
		w.stands(1000, (1000-c.Late)/c.Len)
		for _, s := range some(14) {
			for epoch := range w.Epochs() {
				w.Where(s, epoch)
				w.Parent(s, epoch)
			}
		}
	}
	for _, piece := range []string{"\xa5", "\xa5\x2c", "\xa5\x2c\x01", "x", "\x00", "\xa5\x00\x02\x58", "\xa5\x01\x03"} {
		w := newWatch(t, easy())
		for range 300 {
			if _, err := w.Feed(0, strings.Repeat(piece, 2000/len(piece))); err != nil {
				t.Fatal(err)
			}
		}
	}
}

// Z1, G1 to G3: no bytes make a watch panic, and what comes of them is what the chapter says. Each byte of the plan says what is next: ticks, or so many bytes to a reader.
func FuzzWatch(f *testing.F) {
	read := readsOf(api.Read{Antenna: 1, Strength: 2, Tag: item(1)}, api.Read{Tag: box(1)})
	f.Add(int64(1), "\x40\x80\x41\x82\x43", strings.Repeat(read, 9)+warmOf(9))
	f.Add(int64(2), "\x20\x00\x31\x82\x13\x00\x01\x22", "x"+strings.Repeat(read+"\xa5", 9))
	f.Fuzz(func(t *testing.T, seed int64, plan, bytes string) {
		r := rand.New(rand.NewSource(seed))
		c, l := drawnConfig(r), drawnRules(r)
		w, err := watch.New(c, l)
		if err != nil {
			t.Fatal(err)
		}
		p := newPlain(c, l)
		for i := range min(len(plan), 60) {
			x := int(plan[i])
			if x < 32 {
				p.now += x % 8
				w.Tick(x % 8)
				continue
			}
			n := min(len(bytes), x-32)
			want := p.feed(x%4, bytes[:n])
			if got, err := w.Feed(x%4, bytes[:n]); got != want || err != nil {
				t.Errorf("Feed(%d, %x): %d, %v; %d is wanted", x%4, bytes[:n], got, err, want)
			}
			bytes = bytes[n:]
		}
		tags := append(some(3), "", bytes)
		tags = append(tags, p.known...)
		if got, want := told(w, tags), p.told(tags); got != want {
			t.Errorf("%+v, %+v: %s", c, l, differs(got, want))
		}
	})
}
