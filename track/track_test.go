package track_test

import (
	"math"
	"math/rand"
	"reflect"
	"slices"
	"strconv"
	"strings"
	"testing"
	"unsafe"

	"cratewatch/api"
	"cratewatch/track"
)

// far: numbers that are out of every bound.
var far = []int{math.MinInt, math.MinInt32, -65536, -256, -9, -2, 256, 257, 65536, math.MaxInt32, math.MaxInt}

func newTrack(t testing.TB, window, need int) *track.Track {
	t.Helper()
	k, err := track.New(window, need)
	if err != nil || k == nil {
		t.Fatalf("New(%d, %d): %v, %v", window, need, k, err)
	}
	return k
}

// tell an epoch a list.
func tell(t testing.TB, k *track.Track, epochs ...[]api.Sight) {
	t.Helper()
	for _, l := range epochs {
		had := k.Epochs()
		if err := k.Tell(l); err != nil || k.Epochs() != had+1 {
			t.Fatalf("Tell(%+v): %v, %d epochs", l, err, k.Epochs())
		}
	}
}

// at: a tag's sight.
func at(tag string, place, strength int) api.Sight {
	return api.Sight{Place: place, Strength: strength, Tag: tag}
}

// seen: an epoch's sights of the tag "a", each a place and a strength.
func seen(l ...[2]int) []api.Sight {
	var sights []api.Sight
	for _, s := range l {
		sights = append(sights, at("a", s[0], s[1]))
	}
	return sights
}

// is: is the tag at these places, from epoch 0 on, and in no more epochs?
func is(t testing.TB, k *track.Track, tag string, places ...int) {
	t.Helper()
	for epoch, want := range places {
		if got, err := k.Where(tag, epoch); got != want || err != nil {
			t.Fatalf("Where(%q, %d): %d, %v; %d is wanted", tag, epoch, got, err, want)
		}
	}
	if k.Epochs() != len(places) {
		t.Fatalf("%d epochs; %d are wanted", k.Epochs(), len(places))
	}
}

// refuses: has Where this error, and is Comes false?
func refuses(t testing.TB, k *track.Track, tag string, epoch int, want api.Errno) {
	t.Helper()
	if got, err := k.Where(tag, epoch); got != 0 || err != error(want) {
		t.Fatalf("Where(%q, %d): %d, %v; %v is wanted", tag, epoch, got, err, want)
	}
	for place := -2; place < 10; place++ {
		if k.Comes(tag, place, epoch) {
			t.Fatalf("Comes(%q, %d, %d)", tag, place, epoch)
		}
	}
}

// tagsOf a track, sorted.
func tagsOf(k *track.Track) []string {
	var l []string
	for tag := range k.Tags() {
		l = append(l, tag)
	}
	slices.Sort(l)
	return l
}

// knows: are these the tags that are told, in order?
func knows(t testing.TB, k *track.Track, want ...string) {
	t.Helper()
	if got := tagsOf(k); !slices.Equal(got, want) {
		t.Fatalf("tags: %q; %q is wanted", got, want)
	}
}

// D1: just the windows and the needs within bounds make a track, and nothing is told to it.
func TestNew(t *testing.T) {
	for window := -3; window <= 12; window++ {
		for need := -3; need <= 12; need++ {
			k, err := track.New(window, need)
			if right := 1 <= window && window <= 8 && 1 <= need && need <= window; right != (err == nil) {
				t.Fatalf("New(%d, %d): %v", window, need, err)
			}
			if err != nil {
				if k != nil || err != error(api.ErrBound) {
					t.Fatalf("New(%d, %d): %v, %v", window, need, k, err)
				}
				continue
			}
			is(t, k, "a")
			knows(t, k)
			refuses(t, k, "a", 0, api.ErrBound)
		}
	}
	for _, n := range far {
		for _, c := range [][2]int{{n, 1}, {8, n}, {n, n}, {n, 0}, {0, n}} {
			if k, err := track.New(c[0], c[1]); k != nil || err != error(api.ErrBound) {
				t.Errorf("New(%d, %d): %v, %v", c[0], c[1], k, err)
			}
		}
	}
}

// D2: the document's example: of the item and of the case, with a window of 2 epochs, of which 1 is needed.
func TestDocumentsTrack(t *testing.T) {
	k := newTrack(t, 2, 1)
	tell(t, k,
		[]api.Sight{at("item", 0, 9), at("case", 0, 5), at("case", 1, 5)},
		[]api.Sight{at("item", 0, 9), at("case", 0, 9)},
		[]api.Sight{at("item", 2, 7), at("case", 1, 3)},
		[]api.Sight{at("item", 2, 7), at("case", 1, 3)})
	is(t, k, "item", 0, 0, 0, 2)
	is(t, k, "case", 0, 0, 0, 1)
	knows(t, k, "case", "item")
}

// D2: a track worked out by hand: 2 of 3 epochs are needed.
func TestKnownTrack(t *testing.T) {
	k := newTrack(t, 3, 2)
	tell(t, k,
		seen([2]int{5, 200}),                // once is too few
		seen([2]int{4, 1}),                  // two places, once each
		seen([2]int{5, 0}, [2]int{6, 9}),    // 5 twice of three
		seen([2]int{6, 9}),                  // 6 twice; 5 and 4 once, as epoch 0 is out
		nil,                                 // 6 twice, 5 once
		seen([2]int{5, 1}, [2]int{5, 1}),    // 6 and 5 once: twice in one epoch is once
		seen([2]int{5, 1}, [2]int{6, 0}),    // 5 twice, 6 once
		nil,                                 // 5 twice, 6 once
		seen([2]int{6, 255}, [2]int{7, 20}), // 6 twice, 5 and 7 once
		seen([2]int{7, 20}, [2]int{0, 20}),  // 7 twice
		nil, nil, nil)
	is(t, k, "a", -1, -1, 5, 6, 6, -1, 5, 5, 6, 7, 7, -1, -1)
}

// D2: the place that counts most, however weak; then the strongest in all; then the lowest.
func TestWhichPlace(t *testing.T) {
	cases := []struct {
		what         string
		window, need int
		epochs       [][]api.Sight
		last         int
	}{
		{"counts more, is weaker and higher", 2, 1, [][]api.Sight{seen([2]int{7, 0}), seen([2]int{7, 0}, [2]int{0, 255})}, 7},
		{"counts more, seen once an epoch", 2, 1, [][]api.Sight{seen([2]int{7, 0}), seen([2]int{7, 0}, [2]int{0, 9}, [2]int{0, 9}, [2]int{0, 9})}, 7},
		{"counts more, is lower", 2, 1, [][]api.Sight{seen([2]int{0, 0}), seen([2]int{0, 0}, [2]int{7, 255})}, 0},
		{"as often, stronger, higher", 1, 1, [][]api.Sight{seen([2]int{3, 8}, [2]int{4, 9})}, 4},
		{"as often, stronger, lower", 1, 1, [][]api.Sight{seen([2]int{3, 9}, [2]int{4, 8})}, 3},
		{"a sum within an epoch", 1, 1, [][]api.Sight{seen([2]int{3, 8}, [2]int{4, 4}, [2]int{4, 5})}, 4},
		{"a sum over epochs", 2, 1, [][]api.Sight{seen([2]int{3, 8}, [2]int{4, 4}), seen([2]int{4, 5}, [2]int{3, 0})}, 4},
		{"a sum, not the strongest", 2, 2, [][]api.Sight{seen([2]int{2, 255}, [2]int{4, 100}), seen([2]int{2, 0}, [2]int{4, 156})}, 4},
		{"the same sight twice adds twice", 1, 1, [][]api.Sight{seen([2]int{2, 9}, [2]int{5, 5}, [2]int{5, 5})}, 5},
		{"the sum of those that are looked at", 2, 1, [][]api.Sight{seen([2]int{1, 255}), seen([2]int{1, 1}), seen([2]int{2, 2})}, 2},
		{"alike: the lowest", 1, 1, [][]api.Sight{seen([2]int{6, 9}, [2]int{2, 9}, [2]int{4, 9})}, 2},
		{"alike, by other sights", 1, 1, [][]api.Sight{seen([2]int{6, 9}, [2]int{4, 4}, [2]int{4, 5})}, 4},
		{"alike, at 0", 1, 1, [][]api.Sight{seen([2]int{7, 0}, [2]int{0, 0})}, 0},
		{"all places alike", 1, 1, [][]api.Sight{seen([2]int{7, 1}, [2]int{6, 1}, [2]int{5, 1}, [2]int{4, 1}, [2]int{3, 1}, [2]int{2, 1}, [2]int{1, 1}, [2]int{0, 1})}, 0},
		{"the last is the newer one, and tells no more", 2, 1, [][]api.Sight{seen([2]int{1, 9}), seen([2]int{2, 9})}, 1},
		{"not as often as need be", 2, 2, [][]api.Sight{seen([2]int{1, 255}), seen([2]int{2, 255})}, -1},
		{"one as often as need be", 3, 2, [][]api.Sight{seen([2]int{1, 255}), seen([2]int{2, 0}), seen([2]int{2, 0})}, 2},
		{"strength 0 is seen", 1, 1, [][]api.Sight{seen([2]int{7, 0})}, 7},
		{"one place, the strongest one", 8, 1, [][]api.Sight{seen([2]int{7, 255})}, 7},
	}
	for _, c := range cases {
		k := newTrack(t, c.window, c.need)
		tell(t, k, c.epochs...)
		if got, err := k.Where("a", len(c.epochs)-1); got != c.last || err != nil {
			t.Errorf("%s: %d, %v; %d is wanted", c.what, got, err, c.last)
		}
	}
}

// D2: of each window and need: a tag that was seen in each epoch of a pattern is there just while the window holds enough of them.
func TestEachWindow(t *testing.T) {
	const epochs = 11
	for window := 1; window <= api.MaxWindow; window++ {
		for need := 1; need <= window; need++ {
			for pattern := 1; pattern < 1<<epochs; pattern += 1 + window {
				k := newTrack(t, window, need)
				var want []int
				for e := range epochs {
					var l []api.Sight
					if pattern>>e&1 == 1 {
						l = seen([2]int{window - 1, 0})
					}
					tell(t, k, l)
					count := 0
					for ahead := range window {
						if e >= ahead {
							count += pattern >> (e - ahead) & 1
						}
					}
					if count >= need {
						want = append(want, window-1)
					} else {
						want = append(want, -1)
					}
				}
				is(t, k, "a", want...)
			}
		}
	}
}

// D1: each Place and Strength within bounds is taken, of any Tag, at any Time.
func TestTellTakesSights(t *testing.T) {
	tags := []string{"", "\x00", "a", "a\x00", "item:1.0", "item:1.0.000007.5", "\xff\xfe", "äöü", strings.Repeat("t", 1<<16)}
	slices.Sort(tags)
	for _, time := range append(far, 0, -1, 1000) {
		k := newTrack(t, 1, 1)
		var l []api.Sight
		for i, tag := range tags {
			l = append(l, api.Sight{Place: i % api.Places, Strength: 255 * (i % 2), Time: time, Tag: tag})
		}
		tell(t, k, l)
		for i, tag := range tags {
			is(t, k, tag, i%api.Places)
		}
		knows(t, k, tags...)
	}
	for place := range api.Places {
		k := newTrack(t, 1, 1)
		for strength := range 256 {
			tell(t, k, []api.Sight{at("a", place, strength)})
			if got, err := k.Where("a", strength); got != place || err != nil {
				t.Fatalf("at %d, %d: %d, %v", place, strength, got, err)
			}
		}
	}
}

// wrong sights.
func wrong() []api.Sight {
	var l []api.Sight
	for _, n := range append(far, -1) {
		l = append(l, at("b", n, 9), at("b", 1, n), at("b", n, n), at("a", n, 9), at("a", 1, n))
	}
	return append(l, at("b", 8, 9), at("b", 9, 9), at("b", 8, 0), at("b", -1, 255), at("a", 8, 9))
}

// D1, Z1: a list with a sight that is out of bounds is no epoch, and changes nothing.
func TestTellBounds(t *testing.T) {
	k := newTrack(t, 2, 1)
	tell(t, k, seen([2]int{3, 9}))
	right := []api.Sight{at("c", 1, 9), at("a", 4, 99)}
	for _, s := range wrong() {
		for i := range len(right) + 1 {
			l := slices.Insert(slices.Clone(right), i, s)
			if err := k.Tell(l); err != error(api.ErrBound) {
				t.Fatalf("Tell(%+v): %v", l, err)
			}
			is(t, k, "a", 3)
			knows(t, k, "a")
			refuses(t, k, "c", 0, api.ErrNone)
			refuses(t, k, "a", 1, api.ErrBound)
		}
	}
	tell(t, k, nil)
	is(t, k, "a", 3, 3)
	tell(t, k, right)
	is(t, k, "a", 3, 3, 4)
}

// D1: an epoch without sights is one.
func TestEmptyEpochs(t *testing.T) {
	k := newTrack(t, 8, 1)
	tell(t, k, nil, []api.Sight{}, nil)
	refuses(t, k, "a", 2, api.ErrNone)
	refuses(t, k, "a", 3, api.ErrBound)
	knows(t, k)
	tell(t, k, seen([2]int{2, 1}))
	is(t, k, "a", -1, -1, -1, 2)
}

// D2, Z3: what Where can't tell; that no such epoch was told comes ahead of that no such tag was.
func TestWhereErrors(t *testing.T) {
	k := newTrack(t, 3, 1)
	for told := range 5 {
		for _, epoch := range append(far, -1, told, told+1, told+2) {
			if epoch < 0 || epoch >= told {
				refuses(t, k, "a", epoch, api.ErrBound)
				refuses(t, k, "b", epoch, api.ErrBound)
			}
		}
		for epoch := range told {
			for _, tag := range []string{"b", "", "aa", "a\x00", "A"} {
				refuses(t, k, tag, epoch, api.ErrNone)
			}
		}
		tell(t, k, seen([2]int{told, 0}))
	}
	tell(t, k, []api.Sight{at("b", 7, 9)})
	is(t, k, "b", -1, -1, -1, -1, -1, 7)
}

// D2: a tag comes to the place where it is, just in the epochs ahead of which it was elsewhere, nowhere, or there was none.
func TestComes(t *testing.T) {
	k := newTrack(t, 1, 1)
	tell(t, k,
		seen([2]int{0, 1}), seen([2]int{0, 1}), seen([2]int{7, 1}), seen([2]int{0, 1}), nil, nil,
		seen([2]int{0, 1}), seen([2]int{7, 1}), seen([2]int{7, 9}))
	tell(t, k, []api.Sight{at("b", 0, 0)})
	comes := map[[2]int]bool{{0, 0}: true, {7, 2}: true, {0, 3}: true, {0, 6}: true, {7, 7}: true}
	for epoch := -2; epoch < 12; epoch++ {
		for place := -2; place < 10; place++ {
			if got := k.Comes("a", place, epoch); got != comes[[2]int{place, epoch}] {
				t.Errorf("Comes(a, %d, %d): %t", place, epoch, got)
			}
			if got := k.Comes("b", place, epoch); got != (place == 0 && epoch == 9) {
				t.Errorf("Comes(b, %d, %d): %t", place, epoch, got)
			}
			if k.Comes("c", place, epoch) {
				t.Errorf("Comes(c, %d, %d)", place, epoch)
			}
		}
	}
	for _, n := range append(far, -1) {
		for m := range 10 {
			if k.Comes("a", n, m) || k.Comes("a", m, n) || k.Comes("a", n, n) {
				t.Errorf("Comes of %d and %d", n, m)
			}
		}
	}
}

// D2: it comes where the track says it is, not where it was seen.
func TestComesSmoothed(t *testing.T) {
	k := newTrack(t, 3, 2)
	tell(t, k, seen([2]int{4, 9}), seen([2]int{4, 9}), seen([2]int{5, 9}), seen([2]int{4, 9}), seen([2]int{5, 9}), seen([2]int{5, 9}))
	is(t, k, "a", -1, 4, 4, 4, 5, 5)
	for epoch := range 6 {
		if k.Comes("a", 4, epoch) != (epoch == 1) || k.Comes("a", 5, epoch) != (epoch == 4) || k.Comes("a", -1, epoch) {
			t.Errorf("epoch %d: %t, %t", epoch, k.Comes("a", 4, epoch), k.Comes("a", 5, epoch))
		}
	}
}

// some tags, a sight each in one epoch.
func some(count int) (tags []string, l []api.Sight) {
	for i := range count {
		tags = append(tags, "tag"+strconv.Itoa(i))
		l = append(l, at(tags[i], i%api.Places, 1))
	}
	slices.Sort(tags)
	return tags, l
}

// D1: each tag once, however often it was told, and in how many epochs.
func TestTags(t *testing.T) {
	for _, count := range []int{0, 1, 2, 12, 13, 1000} {
		k := newTrack(t, 1, 1)
		tags, l := some(count)
		tell(t, k, l, append(slices.Clone(l), l...), nil, l[:count/2])
		knows(t, k, tags...)
		all := k.Tags()
		for range 2 { // what was gone over once may be gone over again
			var got []string
			for tag := range all {
				got = append(got, tag)
			}
			slices.Sort(got)
			if !slices.Equal(got, tags) {
				t.Fatalf("%d tags: %q", count, got)
			}
		}
	}
}

// D1: it may be left at any time: then no more is told, and nothing is changed.
func TestTagsLeft(t *testing.T) {
	k := newTrack(t, 1, 1)
	tags, l := some(12)
	tell(t, k, l)
	for most := 1; most <= 12; most++ {
		var got []string
		k.Tags()(func(tag string) bool {
			got = append(got, tag)
			return len(got) < most
		})
		slices.Sort(got)
		if len(got) != most || len(slices.Compact(got)) != most {
			t.Fatalf("left at %d: %q", most, got)
		}
		knows(t, k, tags...)
	}
	pairs := 0
	for a := range k.Tags() {
		for b := range k.Tags() {
			if a == b {
				break
			}
			pairs++
		}
	}
	if pairs != 12*11/2 {
		t.Errorf("%d pairs", pairs)
	}
}

// D1, Z1: a track may be told more, and asked, while its tags are gone over; these are the ones of the beginning.
func TestTellWithinTags(t *testing.T) {
	k := newTrack(t, 1, 1)
	tags, l := some(9)
	tell(t, k, l)
	var got []string
	for tag := range k.Tags() {
		got = append(got, tag)
		tell(t, k, []api.Sight{at(tag+"x", 1, 1), at(tag, 2, 2)})
		if p, err := k.Where(tag, len(got)); p != 2 || err != nil {
			t.Fatalf("%d, %v", p, err)
		}
	}
	slices.Sort(got)
	if !slices.Equal(got, tags) || len(tagsOf(k)) != 18 {
		t.Errorf("%q", got)
	}
	ahead := k.Tags()
	tell(t, k, []api.Sight{at("new", 1, 1)})
	for tag := range ahead {
		if tag == "new" {
			t.Error("a tag that was told behind the call")
		}
	}
}

// Z2: a list that is handed in is not written into, not kept, and what stands behind it isn't read.
func TestListIsTheCallers(t *testing.T) {
	k := newTrack(t, 2, 1)
	l := []api.Sight{at("b", 1, 9), at("a", 2, 9), at("b", 1, 9), at("behind", 99, 99)}
	was := slices.Clone(l)
	tell(t, k, l[:3])
	if !slices.Equal(l, was) {
		t.Errorf("%+v", l)
	}
	for i := range l {
		l[i] = at("c", 7, 255)
	}
	tell(t, k, nil)
	is(t, k, "a", 2, 2)
	is(t, k, "b", 1, 1)
	knows(t, k, "a", "b")
}

// Z2: a track keeps no piece of the text that a Tag was taken from.
func TestTagIsNotKept(t *testing.T) {
	b := []byte("some text abcdefgh that is longer")
	text := unsafe.String(&b[0], len(b))
	k := newTrack(t, 1, 1)
	for range 3 { // a tag that is known is not kept anew, either
		tell(t, k, []api.Sight{at(text[10:18], 4, 1)})
	}
	is(t, k, text[10:18], 4, 4, 4)
	for i := range b {
		b[i] = 0
	}
	is(t, k, "abcdefgh", 4, 4, 4)
	knows(t, k, "abcdefgh")
}

// Z2: tracks know nothing of each other.
func TestTracksApart(t *testing.T) {
	a, b := newTrack(t, 2, 1), newTrack(t, 2, 1)
	tell(t, a, seen([2]int{1, 1}), seen([2]int{1, 1}))
	tell(t, b, nil)
	knows(t, b)
	refuses(t, b, "a", 0, api.ErrNone)
	refuses(t, b, "a", 1, api.ErrBound)
	tell(t, b, seen([2]int{2, 1}))
	is(t, a, "a", 1, 1)
	is(t, b, "a", -1, 2)
}

// Z2, D2: what comes later changes nothing of what was; nor does asking.
func TestThePastStays(t *testing.T) {
	r := rand.New(rand.NewSource(3))
	for range 200 {
		window := 1 + r.Intn(8)
		k := newTrack(t, window, 1+r.Intn(window))
		var was []int
		for e := range 20 {
			tell(t, k, seen([2]int{r.Intn(3), r.Intn(3)}, [2]int{r.Intn(3), r.Intn(3)}))
			place, err := k.Where("a", e)
			if err != nil {
				t.Fatal(err)
			}
			was = append(was, place)
			is(t, k, "a", was...)
		}
	}
}

// Z1, D2: many epochs, and many sights in one: the sum goes beyond what 32 bits hold.
func TestMany(t *testing.T) {
	k := newTrack(t, 8, 8)
	for range 1 << 16 {
		tell(t, k, nil)
	}
	l := make([]api.Sight, 1<<20+1<<16)
	for i := range l {
		l[i] = at("a", 6, 255)
	}
	l[0].Place = 2
	for range 8 {
		tell(t, k, l)
	}
	n := k.Epochs()
	for epoch := n - 20; epoch < n; epoch++ {
		want := -1
		if epoch == n-1 {
			want = 6
		}
		if got, err := k.Where("a", epoch); got != want || err != nil {
			t.Errorf("epoch %d of %d: %d, %v", epoch, n, got, err)
		}
	}
}

// plain: what the chapter says of a track, by another way than the program's: it keeps each epoch's list, and goes through them all.
type plain struct {
	window, need int
	epochs       [][]api.Sight
}

func (p *plain) tell(l []api.Sight) error {
	for _, s := range l {
		if s.Place < 0 || s.Place > 7 || s.Strength < 0 || s.Strength > 255 {
			return api.ErrBound
		}
	}
	p.epochs = append(p.epochs, slices.Clone(l))
	return nil
}

func (p *plain) tags() []string {
	var l []string
	for _, e := range p.epochs {
		for _, s := range e {
			l = append(l, s.Tag)
		}
	}
	slices.Sort(l)
	return slices.Compact(l)
}

// rank of a place: count, sum, and the lower places ahead; nil: it counts fewer than need be.
func (p *plain) rank(tag string, place, epoch int) []int {
	count, sum := 0, 0
	for e, l := range p.epochs {
		was := false
		for _, s := range l {
			if e <= epoch && epoch-e < p.window && s.Tag == tag && s.Place == place {
				was = true
				sum += s.Strength
			}
		}
		if was {
			count++
		}
	}
	if count < p.need {
		return nil
	}
	return []int{count, sum, -place}
}

func (p *plain) where(tag string, epoch int) (int, error) {
	if epoch < 0 || epoch >= len(p.epochs) {
		return 0, api.ErrBound
	}
	if !slices.Contains(p.tags(), tag) {
		return 0, api.ErrNone
	}
	var best []int
	for place := 7; place >= 0; place-- {
		if k := p.rank(tag, place, epoch); slices.Compare(k, best) > 0 {
			best = k
		}
	}
	if best == nil {
		return -1, nil
	}
	return -best[2], nil
}

func (p *plain) comes(tag string, place, epoch int) bool {
	now, err := p.where(tag, epoch)
	if err != nil || place < 0 || now != place {
		return false
	}
	if epoch == 0 {
		return true
	}
	ahead, _ := p.where(tag, epoch-1)
	return ahead != place
}

// both: does the track answer as the plain one does?
type both struct {
	t testing.TB
	k *track.Track
	p plain
}

func (b *both) tell(l []api.Sight) {
	b.t.Helper()
	if got, want := b.k.Tell(l), b.p.tell(l); !reflect.DeepEqual(got, want) {
		b.t.Fatalf("Tell(%+v): %v; %v is wanted", l, got, want)
	}
	if b.k.Epochs() != len(b.p.epochs) {
		b.t.Fatalf("%d epochs; %d are wanted", b.k.Epochs(), len(b.p.epochs))
	}
}

func (b *both) ask(tag string, place, epoch int) {
	b.t.Helper()
	got, err := b.k.Where(tag, epoch)
	want, wantErr := b.p.where(tag, epoch)
	if got != want || !reflect.DeepEqual(err, wantErr) {
		b.t.Fatalf("window %d, need %d, %+v: Where(%q, %d): %d, %v; %d, %v is wanted", b.p.window, b.p.need, b.p.epochs, tag, epoch, got, err, want, wantErr)
	}
	for _, at := range []int{place, want, -1} {
		if got, want := b.k.Comes(tag, at, epoch), b.p.comes(tag, at, epoch); got != want {
			b.t.Fatalf("window %d, need %d, %+v: Comes(%q, %d, %d): %t", b.p.window, b.p.need, b.p.epochs, tag, at, epoch, got)
		}
	}
}

// drawn: sights of a few tags, most of them at few places and of few strengths, so that many are alike.
func drawn(r *rand.Rand, most int) []api.Sight {
	var l []api.Sight
	for range r.Intn(most) {
		s := at(string(rune('a'+r.Intn(3))), r.Intn(3), r.Intn(3))
		if r.Intn(10) == 0 {
			s.Place, s.Strength = r.Intn(8), r.Intn(256)
		}
		if r.Intn(150) == 0 {
			s.Place, s.Strength = r.Intn(10)-1, r.Intn(258)-1
		}
		s.Time = r.Intn(1000)
		l = append(l, s)
	}
	return l
}

// D1, D2: tracks of drawn sights, right and wrong ones, asked while they are told, and behind it.
func TestDrawnTracks(t *testing.T) {
	r := rand.New(rand.NewSource(4))
	for range 1000 {
		window := 1 + r.Intn(8)
		need := 1 + r.Intn(window)
		b := both{t, newTrack(t, window, need), plain{window: window, need: need}}
		for range r.Intn(20) {
			b.tell(drawn(r, 8))
			b.ask(string(rune('a'+r.Intn(4))), r.Intn(8), r.Intn(22)-1)
		}
		for _, tag := range []string{"a", "b", "c", "d"} {
			for epoch := -1; epoch <= len(b.p.epochs); epoch++ {
				b.ask(tag, r.Intn(4), epoch)
			}
		}
		knows(t, b.k, b.p.tags()...)
	}
}

// W4: where a tag is hangs on its own sights alone: others, and the order within an epoch, tell nothing; and it was seen there as often as need be.
func TestOwnSightsAlone(t *testing.T) {
	r := rand.New(rand.NewSource(5))
	for range 400 {
		window := 1 + r.Intn(6)
		need := 1 + r.Intn(window)
		whole, own := newTrack(t, window, need), newTrack(t, window, need)
		var epochs [][]api.Sight
		for range 15 {
			l := slices.DeleteFunc(drawn(r, 9), func(s api.Sight) bool { return s.Place < 0 || s.Place > 7 || s.Strength < 0 || s.Strength > 255 })
			tell(t, whole, l)
			mine := slices.DeleteFunc(slices.Clone(l), func(s api.Sight) bool { return s.Tag != "a" })
			r.Shuffle(len(mine), func(i, j int) { mine[i], mine[j] = mine[j], mine[i] })
			tell(t, own, mine)
			epochs = append(epochs, mine)
		}
		for e := range epochs {
			place, err := own.Where("a", e)
			if p, f := whole.Where("a", e); p != place || f != err {
				t.Fatalf("epoch %d: %d, %v; alone %d, %v", e, p, f, place, err)
			}
			there := 0
			for _, l := range epochs[max(0, e-window+1) : e+1] {
				if slices.ContainsFunc(l, func(s api.Sight) bool { return s.Place == place }) {
					there++
				}
			}
			if err == nil && place >= 0 && there < need {
				t.Fatalf("epoch %d: at %d, %d times of %d", e, place, there, need)
			}
		}
	}
}

// Z1, D1, D2: no numbers and no text make a track panic, and it answers what the chapter says.
func FuzzTrack(f *testing.F) {
	f.Add(3, 2, 4, 9, 0, "abacab")
	f.Add(1, 1, 7, 255, 1, "\xff\x00")
	f.Add(8, 8, 8, 256, 1000, "")
	f.Fuzz(func(t *testing.T, window, need, place, strength, epoch int, text string) {
		k, err := track.New(window, need)
		if err != nil {
			if k != nil || err != error(api.ErrBound) || window > 0 && window <= 8 && need > 0 && need <= window {
				t.Errorf("New(%d, %d): %v, %v", window, need, k, err)
			}
			return
		}
		b := both{t, k, plain{window: window, need: need}}
		b.tell([]api.Sight{{Place: place, Strength: strength, Time: epoch, Tag: text}})
		for i := range min(len(text), 20) { // a byte is an epoch of two sights of short pieces of the text
			n := int(text[i])
			b.tell([]api.Sight{at(text[i:min(i+1, len(text))], n>>5, n&3), at(text[:1], n>>2&7, n&3)})
		}
		for _, tag := range []string{text, text[:min(1, len(text))], text[len(text)/2:], "x"} {
			b.ask(tag, place, epoch)
			for e := range len(b.p.epochs) + 1 {
				b.ask(tag, place, e)
			}
		}
		knows(t, k, b.p.tags()...)
	})
}
