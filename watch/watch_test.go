package watch_test

import (
	"encoding/hex"
	"fmt"
	"math"
	"reflect"
	"slices"
	"strings"
	"testing"
	"unsafe"

	"cratewatch/api"
	"cratewatch/frame"
	"cratewatch/rule"
	"cratewatch/tag"
	"cratewatch/watch"
)

// far: numbers that are out of every bound.
var far = []int{math.MinInt, math.MinInt + 1, math.MinInt32, -65536, -256, -9, -2, 1001, 65536, math.MaxInt32, math.MaxInt - 1, math.MaxInt}

// bytesOf a tag.
func bytesOf(t api.Tag) string {
	b, err := tag.Bytes(t)
	if err != nil {
		panic(err)
	}
	return b
}

// Tags: of each kind by their Serials, so that of one kind the lower one is the lower one as bytes, too.
func item(n int) string   { return bytesOf(api.Tag{Kind: api.Item, Part: 5, Serial: n}) }
func box(n int) string    { return bytesOf(api.Tag{Kind: api.Case, Part: 5, Serial: n}) }
func pallet(n int) string { return bytesOf(api.Tag{Kind: api.Pallet, Part: 5, Serial: n}) }

// written: the bytes of a frame.
func written(f api.Frame) string {
	b, err := frame.Bytes(f)
	if err != nil {
		panic(err)
	}
	return b
}

func readsOf(l ...api.Read) string { return written(api.Frame{Type: api.Reads, Reads: l}) }
func warmOf(n int) string          { return written(api.Frame{Type: api.Warm, Warm: n}) }

// unhex: bytes told by two digits each.
func unhex(s string) string {
	b, err := hex.DecodeString(s)
	if err != nil {
		panic(err)
	}
	return string(b)
}

// easy: a config in which a tag is where it was seen last, each tick is an epoch, and the place of each antenna of reader 0 and 1 has a number of its own; reader 2 has none at all.
func easy() api.Config {
	return api.Config{Len: 1, Window: 1, Need: 1, Span: 1, Score: 1, Where: [4][4]int{{0, 1, 2, 3}, {4, 5, 6, 7}, {-1, -1, -1, -1}, {7, 0, -1, 0}}}
}

func changed(change func(*api.Config)) api.Config {
	c := easy()
	change(&c)
	return c
}

// rules by their texts.
func rules(texts ...string) []api.Rule {
	var l []api.Rule
	for _, s := range texts {
		r, err := rule.Parse(s)
		if err != nil {
			panic(err)
		}
		l = append(l, r)
	}
	return l
}

// seen: a watch that is to be asked.
type seen struct {
	t testing.TB
	*watch.Watch
}

func newWatch(t testing.TB, c api.Config, texts ...string) seen {
	t.Helper()
	w, err := watch.New(c, rules(texts...))
	if err != nil || w == nil {
		t.Fatalf("New(%+v, %q): %v, %v", c, texts, w, err)
	}
	return seen{t, w}
}

// feeds bytes: do they make so many frames?
func (w seen) feeds(reader int, s string, want int) {
	w.t.Helper()
	if n, err := w.Feed(reader, s); n != want || err != nil {
		w.t.Fatalf("Feed(%d, %.80x): %d, %v; %d is wanted", reader, s, n, err, want)
	}
}

// reads one tag.
func (w seen) reads(reader, antenna, strength, age int, s string) {
	w.t.Helper()
	w.feeds(reader, readsOf(api.Read{Antenna: antenna, Strength: strength, Age: age, Tag: s}), 1)
}

// ticks on: does it close so many epochs?
func (w seen) ticks(n, want int) {
	w.t.Helper()
	if got, err := w.Tick(n); got != want || err != nil {
		w.t.Fatalf("Tick(%d): %d, %v; %d is wanted", n, got, err, want)
	}
}

// stands: is it that tick, and are so many epochs closed?
func (w seen) stands(now, epochs int) {
	w.t.Helper()
	if w.Now() != now || w.Epochs() != epochs {
		w.t.Fatalf("tick %d, %d epochs; %d and %d are wanted", w.Now(), w.Epochs(), now, epochs)
	}
}

func (w seen) at(s string, epoch, want int) {
	w.t.Helper()
	if got, err := w.Where(s, epoch); got != want || err != nil {
		w.t.Fatalf("Where(%x, %d): %d, %v; %d is wanted", s, epoch, got, err, want)
	}
}

func (w seen) in(s string, epoch int, want string) {
	w.t.Helper()
	if got, err := w.Parent(s, epoch); got != want || err != nil {
		w.t.Fatalf("Parent(%x, %d): %x, %v; %x is wanted", s, epoch, got, err, want)
	}
}

// refuses: do Where and Parent answer that error, and nothing else?
func (w seen) refuses(s string, epoch int, want api.Errno) {
	w.t.Helper()
	if got, err := w.Where(s, epoch); got != 0 || err != want {
		w.t.Fatalf("Where(%.40x, %d): %d, %v; %v is wanted", s, epoch, got, err, want)
	}
	if got, err := w.Parent(s, epoch); got != "" || err != want {
		w.t.Fatalf("Parent(%.40x, %d): %x, %v; %v is wanted", s, epoch, got, err, want)
	}
}

func (w seen) dropped(want api.Drops) {
	w.t.Helper()
	if got := w.Drops(); got != want {
		w.t.Fatalf("Drops: %+v; %+v is wanted", got, want)
	}
}

func (w seen) warms(reader, want int) {
	w.t.Helper()
	if got, err := w.Warm(reader); got != want || err != nil {
		w.t.Fatalf("Warm(%d): %d, %v; %d is wanted", reader, got, err, want)
	}
}

func (w seen) alerted(want ...api.Alert) {
	w.t.Helper()
	if got := w.Alerts(); !slices.Equal(got, want) {
		w.t.Fatalf("Alerts: %x; %x is wanted", got, want)
	}
}

// told: all that a watch tells, of these tags.
func told(w *watch.Watch, tags []string) string {
	var b strings.Builder
	fmt.Fprintf(&b, "tick %d, epochs %d, %+v\n", w.Now(), w.Epochs(), w.Drops())
	for reader := -1; reader <= api.MaxReaders; reader++ {
		n, err := w.Warm(reader)
		fmt.Fprintf(&b, "warm %d: %d %v\n", reader, n, err)
	}
	for _, a := range w.Alerts() {
		fmt.Fprintf(&b, "alert %d %d %x\n", a.Rule, a.Epoch, a.Tag)
	}
	for _, s := range tags {
		for epoch := -1; epoch <= w.Epochs(); epoch++ {
			place, e1 := w.Where(s, epoch)
			parent, e2 := w.Parent(s, epoch)
			fmt.Fprintf(&b, "%x %d: %d %v %x %v\n", s, epoch, place, e1, parent, e2)
		}
	}
	return b.String()
}

// differs: the first line that does.
func differs(got, want string) string {
	a, b := strings.Split(got, "\n"), strings.Split(want, "\n")
	for i := range min(len(a), len(b)) {
		if a[i] != b[i] {
			return fmt.Sprintf("%s; %s is wanted", a[i], b[i])
		}
	}
	return fmt.Sprintf("%d lines; %d are wanted", len(a), len(b))
}

// refused: does New answer that error, and no watch?
func refused(t *testing.T, what string, c api.Config, l []api.Rule, want api.Errno) {
	t.Helper()
	if w, err := watch.New(c, l); w != nil || err != want {
		t.Errorf("New, %s: %v, %v; %v is wanted", what, w, err, want)
	}
}

// G1: numbers at their bounds are taken.
func TestNewTakes(t *testing.T) {
	for what, c := range map[string]api.Config{
		"the least": {Len: 1, Late: 0, Window: 1, Need: 1, Span: 1, Score: 1},
		"the most":  {Len: 50, Late: 50, Window: 8, Need: 8, Span: 8, Score: 8},
		"mixed":     {Len: 50, Late: 0, Window: 8, Need: 1, Span: 8, Score: 1},
		"no places": changed(func(c *api.Config) {
			c.Where = [4][4]int{{-1, -1, -1, -1}, {-1, -1, -1, -1}, {-1, -1, -1, -1}, {-1, -1, -1, -1}}
		}),
		"places": easy(),
	} {
		if w, err := watch.New(c, nil); w == nil || err != nil {
			t.Errorf("New, %s: %v, %v", what, w, err)
		}
	}
	six := rules("a: any 0 then 1 within 1", "b: any 0 then 1 within 1", "ab: item 7 then 0 without 3 within 50", "c: case 0 then 1 within 1", "d: pallet 0 then 1 within 1", "abcdefghijkl: any 0 then 1 within 1")
	for n := range 7 {
		if w, err := watch.New(easy(), six[:n]); w == nil || err != nil {
			t.Errorf("New of %d rules: %v, %v", n, w, err)
		}
	}
	if w, err := watch.New(easy(), []api.Rule{}); w == nil || err != nil {
		t.Errorf("New of an empty list: %v, %v", w, err)
	}
}

// numbers of a config, and the bounds of each, written out again.
var numbers = []struct {
	name      string
	of        func(*api.Config) *int
	low, high int
}{
	{"Len", func(c *api.Config) *int { return &c.Len }, 1, 50},
	{"Late", func(c *api.Config) *int { return &c.Late }, 0, 50},
	{"Window", func(c *api.Config) *int { return &c.Window }, 1, 8},
	{"Need", func(c *api.Config) *int { return &c.Need }, 1, 3},
	{"Span", func(c *api.Config) *int { return &c.Span }, 1, 8},
	{"Score", func(c *api.Config) *int { return &c.Score }, 1, 4},
}

// G1, Z1, Z3: each number beyond its bounds; a Need above the Window, and a Score above the Span, too.
func TestNewBounds(t *testing.T) {
	base := changed(func(c *api.Config) { c.Window, c.Span = 3, 4 })
	for _, f := range numbers {
		for n := f.low - 1; n <= f.high+1; n++ {
			c := base
			*f.of(&c) = n
			what := fmt.Sprint(f.name, " ", n)
			if n < f.low || n > f.high {
				refused(t, what, c, nil, api.ErrBound)
			} else if w, err := watch.New(c, nil); w == nil || err != nil {
				t.Errorf("New, %s: %v, %v", what, w, err)
			}
		}
		for _, n := range far {
			c := base
			*f.of(&c) = n
			refused(t, fmt.Sprint(f.name, " ", n), c, nil, api.ErrBound)
		}
	}
}

// G1: each place by itself.
func TestNewPlaces(t *testing.T) {
	for reader := range 4 {
		for antenna := range 4 {
			for place := -1; place < 8; place++ {
				c := changed(func(c *api.Config) { c.Where[reader][antenna] = place })
				if w, err := watch.New(c, nil); w == nil || err != nil {
					t.Errorf("New, place %d of %d %d: %v, %v", place, reader, antenna, w, err)
				}
			}
			for _, place := range append(far, 8, 9, 255, 1<<32) {
				c := changed(func(c *api.Config) { c.Where[reader][antenna] = place })
				refused(t, fmt.Sprint("place ", place, " of ", reader, antenna), c, nil, api.ErrBound)
			}
		}
	}
}

// G1, Z3: wrong rules, and of several errors the one named first.
func TestNewRules(t *testing.T) {
	good := rules("a: any 0 then 1 within 1", "b: any 0 then 1 within 1", "c: any 0 then 1 within 1", "d: any 0 then 1 within 1", "e: any 0 then 1 within 1", "f: any 0 then 1 within 1", "g: any 0 then 1 within 1")
	spoilt := func(change func(*api.Rule)) api.Rule {
		r := good[0]
		change(&r)
		return r
	}
	noName := spoilt(func(r *api.Rule) { r.Name = "No" })
	noBound := spoilt(func(r *api.Rule) { r.Name, r.Within = "x", 51 })
	noShape := spoilt(func(r *api.Rule) { r.Name, r.Then = "y", 0 })
	twice := spoilt(func(r *api.Rule) { r.First, r.Then, r.Kind = 4, 5, 2 })
	twiceBound := spoilt(func(r *api.Rule) { r.Kind = 4 })
	twiceShape := spoilt(func(r *api.Rule) { r.Without = 1 })
	list := func(l ...api.Rule) []api.Rule { return l }
	for _, c := range []struct {
		what string
		l    []api.Rule
		want api.Errno
	}{
		{"a wrong name", list(noName), api.ErrText},
		{"a wrong number", list(noBound), api.ErrBound},
		{"places the same", list(noShape), api.ErrShape},
		{"the zero rule", make([]api.Rule, 1), api.ErrText},
		{"one twice", list(good[0], good[0]), api.ErrExist},
		{"a name twice", list(good[0], twice), api.ErrExist},
		{"a name twice, not side by side", list(good[0], good[1], good[2], twice), api.ErrExist},
		{"the last one's name", list(good[1], good[0], twice), api.ErrExist},
		{"six, the last of a name that is there", list(good[0], good[1], good[2], good[3], good[4], twice), api.ErrExist},
		{"seven", good, api.ErrMany},
		{"seven, wrong ones ahead", append(list(noName, noShape), good[:5]...), api.ErrMany},
		{"seven of one name", slices.Repeat(good[:1], 7), api.ErrMany},
		{"a thousand", make([]api.Rule, 1000), api.ErrMany},
		{"a wrong one ahead of a name twice", list(noShape, good[0], good[0]), api.ErrShape},
		{"a wrong one behind a name twice", list(good[0], good[0], noShape), api.ErrExist},
		{"a wrong one between", list(good[0], noBound, good[0]), api.ErrBound},
		{"a name twice, of a wrong number", list(good[0], twiceBound), api.ErrBound},
		{"a name twice, of the same places", list(good[0], twiceShape), api.ErrShape},
		{"two wrong ones", list(noShape, noName), api.ErrShape},
		{"two wrong ones, the other way", list(noName, noShape), api.ErrText},
	} {
		refused(t, c.what, easy(), c.l, c.want)
		// ahead of all rules: places
		refused(t, "a wrong place, "+c.what, changed(func(c *api.Config) { c.Where[3][3] = 8 }), c.l, api.ErrBound)
		for _, f := range numbers {
			refused(t, f.name+", "+c.what, changed(func(c *api.Config) { *f.of(c) = -1 }), c.l, api.ErrBound)
		}
	}
}

// G1, G2, G3: at first there is nothing.
func TestAtFirst(t *testing.T) {
	w := newWatch(t, easy(), "a: any 0 then 1 within 1")
	w.stands(0, 0)
	w.dropped(api.Drops{})
	w.alerted()
	for reader := range 4 {
		w.warms(reader, -1)
	}
	for _, epoch := range append(far, -1, 0, 1) {
		for _, s := range []string{item(1), "", "x", strings.Repeat("x", 1<<20)} {
			w.refuses(s, epoch, api.ErrBound)
		}
	}
}

// G1, G2, G3: the session of the document, by calls.
func TestDocumentsSession(t *testing.T) {
	c := api.Config{Len: 2, Late: 1, Window: 2, Need: 1, Span: 3, Score: 2, Where: [4][4]int{{0, 1, -1, -1}, {2, -1, -1, -1}, {-1, -1, -1, -1}, {-1, -1, -1, -1}}}
	w := newWatch(t, c, "exit: item 0 then 2 without 1 within 4", "walk: any 0 then 1 within 3")
	thing, crate := bytesOf(api.Tag{Kind: api.Item, Filter: 1, Part: 5, Ref: 7, Serial: 5}), bytesOf(api.Tag{Kind: api.Case, Filter: 1, Part: 5, Ref: 9, Serial: 1})
	w.reads(0, 0, 9, 0, thing)
	w.reads(0, 0, 5, 0, crate)
	w.reads(1, 1, 5, 0, crate)
	w.ticks(3, 1)
	w.at(thing, 0, 0)
	w.in(thing, 0, "")
	w.reads(0, 0, 9, 0, thing)
	w.reads(0, 0, 9, 1, crate)
	w.ticks(2, 1)
	w.in(thing, 1, crate)
	w.reads(1, 0, 7, 0, thing)
	w.reads(0, 1, 3, 0, crate)
	w.reads(0, 1, 3, 9, crate)
	w.ticks(2, 1)
	w.at(thing, 2, 0)
	w.reads(1, 0, 7, 0, thing)
	w.reads(0, 1, 3, 0, crate)
	w.ticks(2, 1)
	w.at(thing, 3, 2)
	w.at(crate, 3, 1)
	w.alerted(api.Alert{Rule: 0, Epoch: 3, Tag: thing}, api.Alert{Rule: 1, Epoch: 3, Tag: crate})
	w.feeds(0, unhex("78a50002"), 0)
	w.feeds(0, unhex("58a5010315"), 1)
	w.feeds(0, unhex("41"), 1)
	w.warms(0, 21)
	w.dropped(api.Drops{Bytes: 1, Nowhere: 1, Late: 1})
	w.refuses(thing, 9, api.ErrBound)
	w.refuses(bytesOf(api.Tag{Kind: api.Item, Filter: 1, Part: 5, Ref: 7, Serial: 6}), 0, api.ErrNone)
	w.in(crate, 3, "")
	if n, err := w.Tick(1001); n != 0 || err != api.ErrBound {
		t.Errorf("Tick(1001): %d, %v", n, err)
	}
	w.stands(9, 4)
}

// G2, Z1, Z3: readers that there aren't, and too many bytes; nothing changes by them.
func TestFeedErrors(t *testing.T) {
	w := newWatch(t, easy())
	alive := unhex("a5000258")
	w.feeds(0, "x"+alive[:2], 0)
	had := told(w.Watch, []string{item(1)})
	refuses := func(reader int, s string, want api.Errno) {
		t.Helper()
		if n, err := w.Feed(reader, s); n != 0 || err != want {
			t.Errorf("Feed(%d, of %d bytes): %d, %v; %v is wanted", reader, len(s), n, err, want)
		}
	}
	long := strings.Repeat(alive, 501)
	for _, reader := range append(far, -1, 4, 5, 255, 1<<32) {
		for _, s := range []string{"", "x", alive, long} {
			refuses(reader, s, api.ErrBound)
		}
		if n, err := w.Warm(reader); n != 0 || err != api.ErrBound {
			t.Errorf("Warm(%d): %d, %v", reader, n, err)
		}
	}
	for reader := range 4 {
		for _, s := range []string{long, long[:2001], strings.Repeat("x", 1<<20)} {
			refuses(reader, s, api.ErrMany)
		}
	}
	if now := told(w.Watch, []string{item(1)}); now != had {
		t.Errorf("changed by errors: %s", differs(now, had))
	}
	// What waited still does.
	w.feeds(0, alive[2:], 1)
	w.dropped(api.Drops{Bytes: 1})
}

// G2: as many bytes at once as may be, and none.
func TestFeedBounds(t *testing.T) {
	w := newWatch(t, easy())
	alive := unhex("a5000258")
	for reader := range 4 {
		w.feeds(reader, "", 0)
		w.feeds(reader, strings.Repeat(alive, 500), 500)
		w.feeds(reader, strings.Repeat("x", 2000), 0)
		w.dropped(api.Drops{Bytes: 2000 * (reader + 1)})
		w.feeds(reader, strings.Repeat(alive, 500)[:1999], 499)
		w.feeds(reader, alive[3:], 1)
	}
	w.dropped(api.Drops{Bytes: 8000})
}

// G1, G2: each reader has a line of its own; what all of them lost is told, not what waits.
func TestLinesApart(t *testing.T) {
	w := newWatch(t, easy())
	b := warmOf(21)
	for i := range len(b) - 1 {
		for reader := range 4 {
			w.feeds(reader, b[i:i+1], 0)
		}
	}
	w.dropped(api.Drops{})
	w.feeds(2, b[4:], 1)
	w.warms(2, 21)
	w.feeds(0, "\xff", 0)
	w.dropped(api.Drops{Bytes: 5})
	w.feeds(3, "\xff", 0)
	w.dropped(api.Drops{Bytes: 10})
	w.feeds(1, b[4:], 1)
	w.dropped(api.Drops{Bytes: 10})
	for reader, want := range []int{-1, 21, 21, -1} {
		w.warms(reader, want)
	}
}

// G2: how warm a reader said last that it is; other frames leave it, and so do ticks.
func TestWarm(t *testing.T) {
	w := newWatch(t, easy())
	for n := range 256 {
		w.feeds(n%4, warmOf(n), 1)
		w.warms(n%4, n)
		w.feeds(n%4, unhex("a5000258"), 1)
		w.reads(n%4, 0, 200, 0, item(1))
		w.feeds(n%4, unhex("a5000159"), 1)
		w.ticks(1, 1)
		w.warms(n%4, n)
	}
	w.feeds(1, warmOf(0), 1)
	w.warms(1, 0)
	w.feeds(3, warmOf(7)+unhex("a5000258")+warmOf(8)+warmOf(9)+readsOf(), 5)
	for reader, want := range []int{252, 0, 254, 9} {
		w.warms(reader, want)
	}
	// One whose sum is wrong says nothing.
	w.feeds(1, warmOf(7)[:4]+"\x00", 0)
	w.warms(1, 0)
}

// G2: the place of a sight is its reader's antenna's.
func TestPlaces(t *testing.T) {
	c := easy()
	w := newWatch(t, c)
	epoch := 0
	none := 0
	for reader := range 4 {
		for antenna := range 4 {
			w.reads(reader, antenna, 1, 0, item(1))
			w.ticks(1, 1)
			w.at(item(1), epoch, c.Where[reader][antenna])
			if c.Where[reader][antenna] == -1 {
				none++
			}
			epoch++
		}
	}
	w.dropped(api.Drops{Nowhere: none})
}

// G2, D2: how strong a read is tells where there are as many of several places.
func TestStrengths(t *testing.T) {
	w := newWatch(t, easy())
	w.feeds(0, readsOf(api.Read{Antenna: 1, Strength: 7, Tag: item(1)}, api.Read{Antenna: 3, Strength: 9, Tag: item(1)}, api.Read{Antenna: 2, Strength: 8, Tag: item(1)}), 1)
	w.ticks(1, 1)
	w.at(item(1), 0, 3)
	w.reads(0, 3, 254, 0, item(1))
	w.reads(0, 1, 255, 0, item(1))
	w.ticks(1, 1)
	w.at(item(1), 1, 1)
}

// notTags: bytes that are as many as a tag's, but none.
func notTags() []string {
	good := item(1)
	return []string{
		"\x00\x00\x00\x00\x00\x00\x00\x00",
		"\xff\xff\xff\xff\xff\xff\xff\xff",
		"\x2f" + good[1:],                // a Kind below Item
		"\x33" + good[1:],                // one above Pallet
		good[:1] + "\x18" + good[2:],     // a Part that there isn't
		good[:1] + "\x17\xff" + good[3:], // a Company of too many digits
		"item:0.0",
	}
}

// G2: of each read the first that is so.
func TestWhyDropped(t *testing.T) {
	const nowhere, place, dull = 2, 0, 60
	w := newWatch(t, changed(func(c *api.Config) { c.Late = 3 }))
	bad := notTags()
	for i, s := range bad {
		w.reads(place, 0, 1, 0, s)
		w.dropped(api.Drops{Bad: i + 1})
	}
	want := api.Drops{Bad: len(bad)}
	drop := func(reader, age int, s string, count *int) {
		t.Helper()
		*count++
		w.reads(reader, 0, 1, age, s)
		w.dropped(want)
	}
	drop(nowhere, 0, bad[0], &want.Bad)
	drop(place, dull, bad[0], &want.Bad)
	drop(nowhere, dull, bad[0], &want.Bad)
	drop(nowhere, 0, item(1), &want.Nowhere)
	drop(nowhere, dull, item(1), &want.Nowhere)
	drop(place, dull, item(1), &want.Late)
	drop(place, 1, item(1), &want.Late)
	// None of these is known: all of the twelve find room.
	for i := range 12 {
		w.reads(place, 0, 1, 0, box(i))
		w.reads(place, 0, 1, 0, box(i))
	}
	w.dropped(want)
	drop(place, 0, item(1), &want.Full)
	drop(place, dull, item(1), &want.Full)
	drop(nowhere, 0, item(1), &want.Nowhere)
	drop(nowhere, dull, item(1), &want.Nowhere)
	drop(nowhere, 0, bad[0], &want.Bad)
	drop(nowhere, dull, bad[0], &want.Bad)
	drop(place, 0, bad[0], &want.Bad)
	drop(place, dull, bad[0], &want.Bad)
	drop(nowhere, 0, box(1), &want.Nowhere)
	drop(place, dull, box(1), &want.Late)
	w.reads(place, 0, 1, 0, box(1))
	w.dropped(want)
	w.ticks(10, 7)
	// Those that are told are known as before, and there is no room for others.
	drop(place, 0, item(1), &want.Full)
	w.reads(1, 0, 1, 0, box(11))
	w.dropped(want)
	w.ticks(10, 10)
	w.refuses(item(1), 0, api.ErrNone)
	w.at(box(11), 10, 4)
	for i := range 12 {
		w.at(box(i), 0, 0)
	}
}

// G2: a frame's reads are taken in order, each by itself.
func TestReadsInOrder(t *testing.T) {
	w := newWatch(t, easy())
	for i := range 10 {
		w.reads(0, 0, 1, 0, box(i))
	}
	// Two find room, as the one that is late takes none.
	w.feeds(0, readsOf(api.Read{Tag: item(1)}, api.Read{Age: 1, Tag: item(2)}, api.Read{Tag: item(3)}, api.Read{Tag: item(4)}), 1)
	w.dropped(api.Drops{Late: 1, Full: 1})
	// The last one is known by now.
	w.feeds(0, readsOf(api.Read{Tag: item(3)}, api.Read{Tag: item(4)}, api.Read{Tag: "12345678"}, api.Read{Tag: item(1)}), 1)
	w.dropped(api.Drops{Bad: 1, Late: 1, Full: 2})
	w.ticks(1, 1)
	w.at(item(1), 0, 0)
	w.at(item(3), 0, 0)
	w.refuses(item(2), 0, api.ErrNone)
	w.refuses(item(4), 0, api.ErrNone)
}

// G2: a tag is one by all of its bytes.
func TestAlikeTags(t *testing.T) {
	w := newWatch(t, easy())
	for i := range 12 {
		w.reads(0, 0, 1, 0, bytesOf(api.Tag{Kind: 1 + i%3, Filter: i / 3, Part: 2, Company: 9999, Ref: 999, Serial: 1<<24 - 1}))
	}
	w.dropped(api.Drops{})
	w.reads(0, 0, 1, 0, bytesOf(api.Tag{Kind: 1, Filter: 0, Part: 2, Company: 9999, Ref: 999, Serial: 1<<24 - 2}))
	w.dropped(api.Drops{Full: 1})
}

// G2, C1: how old a read may be, at each tick, with epochs of several ticks.
func TestAges(t *testing.T) {
	for _, c := range []api.Config{{Len: 1}, {Len: 3}, {Len: 3, Late: 2}, {Len: 4, Late: 9}, {Len: 50, Late: 50}, {Len: 7, Late: 50}} {
		c = changed(func(e *api.Config) { e.Len, e.Late = c.Len, c.Late })
		w := newWatch(t, c)
		late := 0
		for now := range 320 {
			for _, age := range []int{0, 1, 2, 3, c.Len, c.Late, c.Len + c.Late - 1, c.Len + c.Late, c.Len + c.Late + 1, now - 1, now, now + 1, 254, 255} {
				if age < 0 || age > 255 {
					continue
				}
				w.reads(0, 0, 1, age, item(1))
				if time := now - age; time < 0 || (time/c.Len+1)*c.Len+c.Late <= now {
					late++
				}
				if w.Drops().Late != late {
					t.Fatalf("Len %d, Late %d, age %d at tick %d: %+v; %d are wanted", c.Len, c.Late, age, now, w.Drops(), late)
				}
			}
			if _, err := w.Tick(1); err != nil {
				t.Fatal(err)
			}
		}
	}
}

// G2: a sight belongs to the epoch of Age ticks ago.
func TestOldSights(t *testing.T) {
	w := newWatch(t, changed(func(c *api.Config) { c.Len, c.Late = 3, 20 }))
	w.ticks(8, 0)
	for i, age := range []int{8, 6, 5, 3, 2, 0} {
		w.reads(0, i/2, 1, age, item(i))
	}
	w.ticks(21, 3)
	for i := range 6 {
		for epoch := range 3 {
			want := -1
			if epoch == i/2 {
				want = epoch
			}
			w.at(item(i), epoch, want)
		}
	}
}

// G2: a frame's reads are as old as they say when it is whole.
func TestFrameOverTicks(t *testing.T) {
	w := newWatch(t, easy())
	b := readsOf(api.Read{Tag: item(1)})
	w.feeds(0, b[:9], 0)
	w.ticks(1, 1)
	w.feeds(0, b[9:], 1)
	w.ticks(1, 1)
	w.at(item(1), 0, -1)
	w.at(item(1), 1, 0)
}

// G3, Z1, Z3: ticks that there aren't; nothing changes by them.
func TestTickErrors(t *testing.T) {
	w := newWatch(t, easy(), "a: any 0 then 1 within 1")
	tags := []string{item(1)}
	w.reads(0, 0, 1, 0, item(1))
	w.ticks(1, 1)
	w.reads(0, 1, 1, 0, item(1))
	refuse := func(l ...int) {
		t.Helper()
		had := told(w.Watch, tags)
		for _, n := range append(far, l...) {
			if got, err := w.Tick(n); got != 0 || err != api.ErrBound {
				t.Errorf("Tick(%d): %d, %v", n, got, err)
			}
		}
		if now := told(w.Watch, tags); now != had {
			t.Errorf("changed by errors: %s", differs(now, had))
		}
	}
	refuse(-1, 1000)
	w.ticks(0, 0)
	w.stands(1, 1)
	w.ticks(998, 998)
	w.alerted(api.Alert{Rule: 0, Epoch: 1, Tag: item(1)})
	refuse(-1, 2)
	w.ticks(1, 1)
	w.stands(1000, 1000)
	refuse(-1, 1)
	w.ticks(0, 0)
	w.stands(1000, 1000)
}

// G3: epochs are closed when they are over, and late, however many ticks go by at once.
func TestEpochs(t *testing.T) {
	for _, c := range []api.Config{{Len: 1}, {Len: 1, Late: 50}, {Len: 2, Late: 1}, {Len: 3, Late: 3}, {Len: 50, Late: 50}} {
		c = changed(func(e *api.Config) { e.Len, e.Late = c.Len, c.Late })
		for step := 1; step <= 60; step += 7 {
			w := newWatch(t, c)
			had := 0
			for now := step; now <= 1000; now += step {
				want := 0
				for (want+1)*c.Len+c.Late <= now {
					want++
				}
				w.ticks(step, want-had)
				w.stands(now, want)
				had = want
			}
		}
	}
}

// G3: where tags are is told of each epoch that is closed, all of a tick's at once.
func TestWhere(t *testing.T) {
	w := newWatch(t, changed(func(c *api.Config) { c.Len, c.Late, c.Window, c.Need = 2, 4, 2, 2 }))
	w.reads(0, 1, 1, 0, item(1))
	w.ticks(2, 0)
	w.reads(0, 1, 1, 0, item(1))
	w.refuses(item(1), 0, api.ErrBound)
	w.ticks(2, 0)
	w.reads(0, 2, 1, 0, item(1))
	w.reads(0, 2, 1, 0, item(2))
	w.refuses(item(1), 0, api.ErrBound)
	w.ticks(2, 1)
	w.at(item(1), 0, -1)
	w.refuses(item(1), 1, api.ErrBound)
	// It is known, and seen, but told later.
	w.refuses(item(2), 0, api.ErrNone)
	w.refuses(item(2), 1, api.ErrBound)
	w.reads(0, 2, 1, 0, item(1))
	w.ticks(4, 2)
	for epoch, want := range []int{-1, 1, -1} {
		w.at(item(1), epoch, want)
		w.at(item(2), epoch, -1)
	}
	w.ticks(2, 1)
	w.at(item(1), 3, 2)
	for _, epoch := range append(far, -1, 4, 5) {
		// ErrBound ahead of ErrNone
		for _, s := range []string{item(1), item(9), "", "x"} {
			w.refuses(s, epoch, api.ErrBound)
		}
	}
	for _, s := range append(notTags(), item(9), box(1), "", "x", item(1)[:7], item(1)+"x", "item:0.0.000000.1", strings.Repeat(item(1), 1<<16)) {
		for epoch := range 4 {
			w.refuses(s, epoch, api.ErrNone)
		}
	}
}

// G3, E2: who is in whom is told of each epoch; one that is in none is told by no text.
func TestParent(t *testing.T) {
	w := newWatch(t, changed(func(c *api.Config) { c.Span, c.Score = 2, 2 }))
	together := func(places map[string]int) {
		t.Helper()
		for s, place := range places {
			w.reads(0, place, 1, 0, s)
		}
		w.ticks(1, 1)
	}
	together(map[string]int{item(1): 1, box(1): 1, pallet(1): 2})
	w.in(item(1), 0, "")
	together(map[string]int{item(1): 1, box(1): 1, pallet(1): 1})
	w.in(item(1), 1, box(1))
	w.in(box(1), 1, "")
	together(map[string]int{item(1): 2, box(1): 1, pallet(1): 1})
	w.in(item(1), 2, "")
	w.in(box(1), 2, pallet(1))
	w.in(pallet(1), 2, "")
	together(map[string]int{item(1): 1, box(1): 1, pallet(1): 1, box(2): 1})
	w.in(item(1), 3, "")
	w.in(box(1), 3, pallet(1))
	w.in(box(2), 3, "")
	together(map[string]int{item(1): 1, box(1): 1, pallet(1): 1, box(2): 1})
	// Three were so as often: the lowest.
	w.in(item(1), 4, box(1))
	w.in(box(2), 4, pallet(1))
	w.in(item(1), 1, box(1))
	w.refuses(item(2), 4, api.ErrNone)
	w.refuses(item(2), 5, api.ErrBound)
}

// G3, E2: who stays a parent, though another one is lower, hangs on the epoch ahead, also where several are closed at once.
func TestParentStays(t *testing.T) {
	for _, at := range []int{1, 2, 4} {
		w := newWatch(t, changed(func(c *api.Config) { c.Late = 3 }))
		w.reads(0, 0, 1, 0, item(1))
		w.reads(0, 0, 1, 0, box(2))
		for now := range 4 {
			if now > 0 {
				w.reads(0, 0, 1, 0, item(1))
				w.reads(0, 0, 1, 0, box(2))
				w.reads(0, 0, 1, 0, box(1))
			}
			w.Tick(1)
		}
		for w.Epochs() < 4 {
			w.Tick(at)
		}
		for epoch := range 4 {
			w.in(item(1), epoch, box(2))
		}
	}
}

// moves: each tag goes from place to place, tick by tick (below 0: it isn't seen), in the easy config.
func moves(w seen, ways map[string][]int) {
	w.t.Helper()
	long := 0
	for _, way := range ways {
		long = max(long, len(way))
	}
	for i := range long {
		for s, way := range ways {
			if i < len(way) && way[i] >= 0 {
				w.reads(way[i]/4, way[i]%4, 1, 0, s)
			}
		}
		if _, err := w.Tick(1); err != nil {
			w.t.Fatal(err)
		}
	}
}

// G3: alerts stand by epochs, then by rules in their order, then by tags as bytes.
func TestAlertsInOrder(t *testing.T) {
	w := newWatch(t, easy(), "z: any 0 then 1 within 9", "y: item 0 then 1 without 2 within 9", "a: any 1 then 0 within 9", "b: case 0 then 1 within 2")
	moves(w, map[string][]int{
		pallet(1):   {0, 1, 0, 1},
		box(300):    {0, 0, 0, 1},
		box(2):      {0, 2, 0, 1},
		item(66000): {0, 1, 0},
		item(9):     {0, 2, 1},
		item(300):   {-1, 0, -1, 1},
	})
	w.alerted(
		api.Alert{Rule: 0, Epoch: 1, Tag: item(66000)},
		api.Alert{Rule: 0, Epoch: 1, Tag: pallet(1)},
		api.Alert{Rule: 1, Epoch: 1, Tag: item(66000)},
		api.Alert{Rule: 0, Epoch: 2, Tag: item(9)},
		api.Alert{Rule: 2, Epoch: 2, Tag: item(66000)},
		api.Alert{Rule: 2, Epoch: 2, Tag: pallet(1)},
		api.Alert{Rule: 0, Epoch: 3, Tag: item(300)},
		api.Alert{Rule: 0, Epoch: 3, Tag: box(2)},
		api.Alert{Rule: 0, Epoch: 3, Tag: box(300)},
		api.Alert{Rule: 0, Epoch: 3, Tag: pallet(1)},
		api.Alert{Rule: 1, Epoch: 3, Tag: item(300)},
		api.Alert{Rule: 3, Epoch: 3, Tag: box(2)},
	)
}

// G3: each rule by its place in the list, as many as may be; the same thing may be looked for twice.
func TestManyRules(t *testing.T) {
	texts := []string{"f: any 0 then 1 within 1", "e: any 0 then 1 within 1", "d: item 0 then 1 within 50", "c: case 0 then 1 within 50", "b: pallet 0 then 1 within 50", "a: any 0 then 1 without 7 within 1"}
	w := newWatch(t, easy(), texts...)
	moves(w, map[string][]int{box(1): {0, 1}})
	w.alerted(api.Alert{Rule: 0, Epoch: 1, Tag: box(1)}, api.Alert{Rule: 1, Epoch: 1, Tag: box(1)}, api.Alert{Rule: 3, Epoch: 1, Tag: box(1)}, api.Alert{Rule: 5, Epoch: 1, Tag: box(1)})
	w = newWatch(t, easy())
	moves(w, map[string][]int{box(1): {0, 1}})
	w.alerted()
}

// G3: an alert is there as soon as its epoch is closed, and not ahead; what is told later changes none.
func TestAlertsWhen(t *testing.T) {
	w := newWatch(t, changed(func(c *api.Config) { c.Late = 2 }), "a: any 0 then 1 within 9")
	w.reads(0, 0, 1, 0, item(1))
	w.ticks(1, 0)
	w.reads(0, 1, 1, 0, item(1))
	w.ticks(2, 1)
	w.alerted()
	// It is not too late to be seen at a stronger place.
	w.reads(0, 2, 9, 2, item(1))
	w.ticks(1, 1)
	w.alerted()
	w.reads(0, 1, 9, 2, item(1))
	w.ticks(0, 0)
	w.alerted()
	w.ticks(1, 1)
	want := api.Alert{Rule: 0, Epoch: 2, Tag: item(1)}
	w.alerted(want)
	w.reads(0, 0, 1, 0, item(1))
	w.ticks(9, 9)
	w.alerted(want)
}

// G3: epochs that are closed at once give the same alerts as one by one.
func TestTickAtOnce(t *testing.T) {
	texts := []string{"a: any 0 then 1 within 9", "b: any 1 then 0 within 9"}
	tags := []string{item(1), item(2), box(1)}
	var want string
	for _, steps := range [][]int{{1, 1, 1, 1, 1, 1, 1, 1}, {8}, {3, 5}, {0, 7, 0, 1, 0}} {
		w := newWatch(t, changed(func(c *api.Config) { c.Late = 10 }), texts...)
		w.ticks(8, 0)
		for i, way := range [][]int{{0, 1, 0, 1, 0, 1, 0, 1}, {1, 1, 0, 0, 1, 1, 0, 0}, {0, 2, 0, 2, 1, 1, 1, 1}} {
			for time, place := range way {
				w.reads(0, place, 1, 8-time, tags[i])
			}
		}
		w.ticks(2, 0)
		for _, n := range steps {
			w.ticks(n, n)
		}
		got := told(w.Watch, tags)
		if want == "" {
			want = got
		}
		if got != want || len(w.Alerts()) != 11 {
			t.Errorf("by steps %v: %d alerts; %s", steps, len(w.Alerts()), differs(got, want))
		}
	}
}

// Z2: the list of rules is neither written into nor kept, nor is what stands behind it read.
func TestRulesHandedIn(t *testing.T) {
	name := []byte("walk")
	all := rules("a: any 5 then 6 within 9", "b: any 0 then 1 within 9", "b: any 0 then 1 within 9")
	all[1].Name = unsafe.String(&name[0], len(name))
	had := slices.Clone(all)
	w, err := watch.New(easy(), all[:2])
	if err != nil {
		t.Fatal(err)
	}
	if !slices.Equal(all, had) {
		t.Errorf("written into: %+v", all)
	}
	copy(name, "NO!!")
	clear(all)
	s := seen{t, w}
	moves(s, map[string][]int{item(1): {0, 1}})
	s.alerted(api.Alert{Rule: 1, Epoch: 1, Tag: item(1)})
}

// Z2: neither bytes that are fed nor tags that are asked for are kept.
func TestTextsHandedIn(t *testing.T) {
	w := newWatch(t, easy(), "a: any 0 then 1 within 9")
	lent := func(s string, call func(string)) {
		b := []byte(s)
		call(unsafe.String(&b[0], len(b)))
		clear(b)
	}
	feed := func(s string) { w.Feed(0, s) }
	for place := range 2 {
		l := readsOf(api.Read{Antenna: place, Tag: item(1)}, api.Read{Antenna: place, Tag: box(1)})
		lent(l[:20], feed)
		lent(l[20:]+"\xa5", feed)
		lent(warmOf(9)[1:], feed)
		w.ticks(1, 1)
	}
	lent(item(1), func(s string) { w.Where(s, 1) })
	lent(item(2), func(s string) { w.Where(s, 1) })
	lent(item(1), func(s string) { w.Parent(s, 1) })
	w.alerted(api.Alert{Rule: 0, Epoch: 1, Tag: item(1)}, api.Alert{Rule: 0, Epoch: 1, Tag: box(1)})
	w.in(item(1), 1, box(1))
	w.at(item(1), 1, 1)
	w.refuses(item(2), 1, api.ErrNone)
	w.dropped(api.Drops{})
	w.warms(0, 9)
	// Those two are known still: ten more find room.
	for i := range 11 {
		w.reads(0, 0, 1, 0, pallet(i))
		w.reads(0, 0, 1, 0, item(1))
	}
	w.dropped(api.Drops{Full: 1})
}

// Z2: alerts that come out are the caller's.
func TestAlertsAreTheCallers(t *testing.T) {
	w := newWatch(t, easy(), "a: any 0 then 1 within 9", "b: any 1 then 0 within 9")
	var lists [][]api.Alert
	var want []api.Alert
	for i := range 40 {
		moves(w, map[string][]int{item(1): {i % 2}})
		if i > 0 {
			want = append(want, api.Alert{Rule: (i + 1) % 2, Epoch: i, Tag: item(1)})
		}
		w.alerted(want...)
		l := w.Alerts()
		other := w.Alerts()
		for k := range l {
			l[k] = api.Alert{Rule: -9}
		}
		_ = append(l, api.Alert{Rule: -9})
		_ = append(l[:0], api.Alert{Rule: -9})
		if !slices.Equal(other, want) {
			t.Fatalf("lists share memory: %+v", other)
		}
		lists = append(lists, other)
	}
	for i, l := range lists {
		if !slices.Equal(l, want[:i]) {
			t.Errorf("a list changed: %+v", l)
		}
	}
}

// Z2: asking changes nothing.
func TestAskingChangesNothing(t *testing.T) {
	w := newWatch(t, easy(), "a: any 0 then 1 within 9")
	tags := []string{item(1), item(2), "", "x"}
	moves(w, map[string][]int{item(1): {0, 1}, box(1): {0, 1}})
	had := told(w.Watch, tags)
	for range 3 {
		if now := told(w.Watch, tags); now != had {
			t.Fatal(differs(now, had))
		}
	}
	for i := range 9 {
		w.reads(0, 0, 1, 0, pallet(i))
	}
	// Tags that were asked for are not known: there is room for one more.
	w.reads(0, 0, 1, 0, item(2))
	w.dropped(api.Drops{})
	w.reads(0, 0, 1, 0, item(3))
	w.dropped(api.Drops{Full: 1})
}

// Z2: watches know nothing of each other.
func TestWatchesApart(t *testing.T) {
	l := rules("a: any 0 then 1 within 9")
	c := easy()
	a, err := watch.New(c, l)
	if err != nil {
		t.Fatal(err)
	}
	b, err := watch.New(c, l)
	if err != nil {
		t.Fatal(err)
	}
	had := told(b, []string{item(1)})
	w := seen{t, a}
	moves(w, map[string][]int{item(1): {0, 1}, box(1): {0, 1}})
	w.feeds(0, "x\xa5\x01", 0)
	w.feeds(1, warmOf(5)+readsOf(api.Read{Tag: "12345678"}, api.Read{Age: 9, Tag: item(1)}), 2)
	w.feeds(2, readsOf(api.Read{Tag: item(1)}), 1)
	for i := range 11 {
		w.reads(1, 0, 1, 0, pallet(i))
	}
	w.dropped(api.Drops{Bytes: 1, Bad: 1, Nowhere: 1, Late: 1, Full: 1})
	if now := told(b, []string{item(1)}); now != had {
		t.Error(differs(now, had))
	}
	seen{t, b}.feeds(0, "\x03\x15\x41", 0)
	seen{t, b}.dropped(api.Drops{Bytes: 3})
}

// Z3: errors are bare.
func TestErrorsAreBare(t *testing.T) {
	w := newWatch(t, easy())
	moves(w, map[string][]int{item(1): {0}})
	_, e1 := watch.New(api.Config{}, nil)
	_, e2 := watch.New(easy(), make([]api.Rule, 7))
	_, e3 := watch.New(easy(), make([]api.Rule, 1))
	_, e4 := w.Feed(-1, "")
	_, e5 := w.Feed(0, strings.Repeat("x", 2001))
	_, e6 := w.Tick(-1)
	_, e7 := w.Where(item(1), 9)
	_, e8 := w.Where(item(2), 0)
	_, e9 := w.Parent(item(1), 9)
	_, e10 := w.Parent(item(2), 0)
	_, e11 := w.Warm(4)
	want := []api.Errno{api.ErrBound, api.ErrMany, api.ErrText, api.ErrBound, api.ErrMany, api.ErrBound, api.ErrBound, api.ErrNone, api.ErrBound, api.ErrNone, api.ErrBound}
	for i, err := range []error{e1, e2, e3, e4, e5, e6, e7, e8, e9, e10, e11} {
		if reflect.TypeOf(err) != reflect.TypeOf(api.OK) || err != want[i] {
			t.Errorf("error %d: %T %v; %v is wanted", i, err, err, want[i])
		}
	}
}
