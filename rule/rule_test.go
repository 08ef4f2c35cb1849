package rule_test

import (
	"fmt"
	"math"
	"math/rand"
	"regexp"
	"slices"
	"strconv"
	"strings"
	"testing"
	"unsafe"

	"cratewatch/api"
	"cratewatch/rule"
	"cratewatch/tag"
	"cratewatch/track"
)

// far: numbers that are out of every bound.
var far = []int{math.MinInt, math.MinInt + 1, math.MinInt32, -65536, -256, -9, -2, 256, 257, 65536, math.MaxInt32, math.MaxInt - 1, math.MaxInt}

// exit: a rule that is right.
var exit = api.Rule{Name: "exit", Kind: api.Item, First: 0, Then: 2, Without: 1, Within: 4}

// with: a rule with one thing changed.
func with(r api.Rule, change func(*api.Rule)) api.Rule {
	change(&r)
	return r
}

// fields of a rule that are numbers, and the bounds of each, written out again.
var fields = []struct {
	name      string
	of        func(*api.Rule) *int
	low, high int
}{
	{"Kind", func(r *api.Rule) *int { return &r.Kind }, 0, 3},
	{"First", func(r *api.Rule) *int { return &r.First }, 0, 7},
	{"Then", func(r *api.Rule) *int { return &r.Then }, 0, 7},
	{"Without", func(r *api.Rule) *int { return &r.Without }, -1, 7},
	{"Within", func(r *api.Rule) *int { return &r.Within }, 1, 50},
}

// good: rules of every Kind and every three places, at the edges of the others.
func good() []api.Rule {
	var l []api.Rule
	for kind := range 4 {
		for first := range 8 {
			for then := range 8 {
				for without := -1; without < 8; without++ {
					if first == then || first == without || then == without {
						continue
					}
					for i, within := range []int{1, 9, 10, 50} {
						name := []string{"a", "zz", "without", "abcdefghijkl"}[(i+without+kind+4)%4]
						l = append(l, api.Rule{Name: name, Kind: kind, First: first, Then: then, Without: without, Within: within})
					}
				}
			}
		}
	}
	return l
}

// badNames: texts that are no names.
func badNames() []string {
	l := []string{"", "abcdefghijklm", strings.Repeat("a", 256), strings.Repeat("a", 1<<20), "A", "aB", "Ab", "exit:", "an exit", " exit", "exit ", "ex-it", "ex.it", "exit1", "1", "\u00e9", "e\u0301", "\uff41", "\xff", "a\x00", "a\n"}
	for c := range 256 {
		if c < 'a' || c > 'z' {
			l = append(l, string([]byte{byte(c)}), string([]byte{'a', byte(c)}), string([]byte{byte(c), 'z'}), "abcdef"+string([]byte{byte(c)})+"ghijk")
		}
	}
	return l
}

// short: a rule to be told, however long its Name is.
func short(r api.Rule) string {
	return fmt.Sprintf("{%.40q %d %d %d %d %d}", r.Name, r.Kind, r.First, r.Then, r.Without, r.Within)
}

// refused: do Check and Text answer that error, and no text?
func refused(t *testing.T, r api.Rule, want api.Errno) {
	t.Helper()
	if err := rule.Check(r); err != want {
		t.Errorf("Check(%s): %v; %v is wanted", short(r), err, want)
	}
	if s, err := rule.Text(r); s != "" || err != want {
		t.Errorf("Text(%s): %.80q, %v; %v is wanted", short(r), s, err, want)
	}
}

// unread: does Parse answer ErrText, and no rule?
func unread(t testing.TB, s string) {
	t.Helper()
	if got, err := rule.Parse(s); err != api.ErrText || got != (api.Rule{}) {
		t.Errorf("Parse(%.80q): %s, %v; ErrText is wanted", s, short(got), err)
	}
}

// F1: what is a rule.
func TestCheckTakesRules(t *testing.T) {
	for _, r := range good() {
		if err := rule.Check(r); err != nil {
			t.Errorf("Check(%+v): %v", r, err)
		}
	}
	for n := 1; n <= 12; n++ {
		r := with(exit, func(r *api.Rule) { r.Name = strings.Repeat("z", n) })
		if err := rule.Check(r); err != nil {
			t.Errorf("Check(%+v): %v", r, err)
		}
	}
	for c := 'a'; c <= 'z'; c++ {
		for _, name := range []string{string(c), "a" + string(c), string(c) + "z", "abcdef" + string(c) + "ghijk"} {
			if err := rule.Check(with(exit, func(r *api.Rule) { r.Name = name })); err != nil {
				t.Errorf("Check of the Name %q: %v", name, err)
			}
		}
	}
	for within := 1; within <= 50; within++ {
		if err := rule.Check(with(exit, func(r *api.Rule) { r.Within = within })); err != nil {
			t.Errorf("Check of Within %d: %v", within, err)
		}
	}
}

// F1, Z1: names that are none.
func TestNames(t *testing.T) {
	for _, name := range badNames() {
		refused(t, with(exit, func(r *api.Rule) { r.Name = name }), api.ErrText)
	}
	refused(t, api.Rule{}, api.ErrText)
}

// F1, Z1: each number at its bounds, and beyond them.
func TestBounds(t *testing.T) {
	for _, f := range fields {
		// Places that no bound of another one's is among, so that none is told twice.
		base := api.Rule{Name: "exit", Kind: 2, First: 3, Then: 4, Without: 5, Within: 6}
		for _, n := range []int{f.low, f.high} {
			r := with(base, func(r *api.Rule) { *f.of(r) = n })
			if err := rule.Check(r); err != nil {
				t.Errorf("Check(%+v): %v", r, err)
			}
		}
		for _, n := range append(far, f.low-1, f.high+1, f.high+2, f.low+256, f.high+1<<32) {
			refused(t, with(base, func(r *api.Rule) { *f.of(r) = n }), api.ErrBound)
		}
	}
}

// F1: two places that are the same.
func TestSamePlaces(t *testing.T) {
	for first := range 8 {
		for then := range 8 {
			for without := -1; without < 8; without++ {
				r := api.Rule{Name: "a", First: first, Then: then, Without: without, Within: 1}
				if first == then || first == without || then == without {
					refused(t, r, api.ErrShape)
				} else if err := rule.Check(r); err != nil {
					t.Errorf("Check(%+v): %v", r, err)
				}
			}
		}
	}
}

// F1, Z3: of several errors the one that is named first.
func TestFirstError(t *testing.T) {
	for _, f := range fields {
		for _, n := range far {
			same := with(exit, func(r *api.Rule) { r.First, r.Then, r.Without = 3, 3, 3; *f.of(r) = n })
			refused(t, same, api.ErrBound)
			refused(t, with(same, func(r *api.Rule) { r.Name = "" }), api.ErrText)
			refused(t, with(exit, func(r *api.Rule) { r.Name = "A"; *f.of(r) = n }), api.ErrText)
		}
	}
	refused(t, with(exit, func(r *api.Rule) { r.Name, r.Then = "a b", r.First }), api.ErrText)
	// Two that are the same, and out of bounds.
	refused(t, with(exit, func(r *api.Rule) { r.First, r.Then = 8, 8 }), api.ErrBound)
	refused(t, with(exit, func(r *api.Rule) { r.First, r.Without = -1, -1 }), api.ErrBound)
	refused(t, with(exit, func(r *api.Rule) { r.Then, r.Without = -1, -1 }), api.ErrBound)
}

// known: rules and their texts, the document's ones first.
var known = []struct {
	rule api.Rule
	text string
}{
	{exit, "exit: item 0 then 2 without 1 within 4"},
	{api.Rule{Name: "walk", First: 0, Then: 1, Without: -1, Within: 3}, "walk: any 0 then 1 within 3"},
	{api.Rule{Name: "a", Kind: api.Case, First: 7, Then: 6, Without: 0, Within: 50}, "a: case 7 then 6 without 0 within 50"},
	{api.Rule{Name: "abcdefghijkl", Kind: api.Pallet, First: 1, Then: 0, Without: 7, Within: 1}, "abcdefghijkl: pallet 1 then 0 without 7 within 1"},
	{api.Rule{Name: "without", Kind: api.Pallet, First: 5, Then: 3, Without: -1, Within: 10}, "without: pallet 5 then 3 within 10"},
	{api.Rule{Name: "any", Kind: 0, First: 2, Then: 4, Without: 3, Within: 19}, "any: any 2 then 4 without 3 within 19"},
}

// F1: texts that are worked out by hand, both ways.
func TestKnownTexts(t *testing.T) {
	for _, k := range known {
		if s, err := rule.Text(k.rule); err != nil || s != k.text {
			t.Errorf("Text(%+v): %q, %v; %q is wanted", k.rule, s, err, k.text)
		}
		if got, err := rule.Parse(k.text); err != nil || got != k.rule {
			t.Errorf("Parse(%q): %+v, %v; %+v is wanted", k.text, got, err, k.rule)
		}
	}
}

// plainText of a rule, by another way than the program's.
func plainText(r api.Rule) string {
	without := ""
	if r.Without >= 0 {
		without = fmt.Sprintf(" without %d", r.Without)
	}
	kind := map[int]string{0: "any", 1: "item", 2: "case", 3: "pallet"}[r.Kind]
	return fmt.Sprintf("%s: %s %d then %d%s within %d", r.Name, kind, r.First, r.Then, without, r.Within)
}

// W5, F1: what is written is read; and no two rules are written alike.
func TestWrittenIsRead(t *testing.T) {
	seen := map[string]api.Rule{}
	for _, r := range good() {
		s, err := rule.Text(r)
		if err != nil || s != plainText(r) {
			t.Fatalf("Text(%+v): %q, %v", r, s, err)
		}
		if back, err := rule.Parse(s); err != nil || back != r {
			t.Errorf("Parse(%q): %+v, %v; %+v is wanted", s, back, err, r)
		}
		if other, ok := seen[s]; ok {
			t.Errorf("%+v and %+v are both written %q", r, other, s)
		}
		seen[s] = r
	}
}

// F1: texts that are no rule's; and beginnings and ends of such ones.
func TestParseRefuses(t *testing.T) {
	for _, s := range []string{
		"", " ", ":", ": ", "exit", "exit:", "exit: ", "exit: item", "x", "exit: item 0", "exit: item 0 then", "exit: item 0 then 2", "exit: item 0 then 2 within", "exit: item 0 then 2 within ",
		// names
		": item 0 then 2 within 4", " item 0 then 2 within 4", "item 0 then 2 within 4", "exit item 0 then 2 within 4", "exit : item 0 then 2 within 4",
		"exit:: item 0 then 2 within 4", "Exit: item 0 then 2 within 4", "EXIT: item 0 then 2 within 4", "exit1: item 0 then 2 within 4", "abcdefghijklm: item 0 then 2 within 4",
		"exit; item 0 then 2 within 4", ":exit item 0 then 2 within 4", "an exit: item 0 then 2 within 4", "\u00e9: item 0 then 2 within 4",
		// kinds
		"exit: 0 0 then 2 within 4", "exit: 1 0 then 2 within 4", "exit: Item 0 then 2 within 4", "exit: ANY 0 then 2 within 4", "exit: items 0 then 2 within 4", "exit: ite 0 then 2 within 4",
		"exit:  0 then 2 within 4", "exit: 0 then 2 within 4", "exit: item case 0 then 2 within 4", "exit: item: 0 then 2 within 4", "exit: box 0 then 2 within 4",
		// places
		"exit: item 8 then 2 within 4", "exit: item 0 then 8 within 4", "exit: item -1 then 2 within 4", "exit: item 0 then -1 within 4", "exit: item 0 then 2 without 8 within 4",
		"exit: item 0 then 2 without -1 within 4", "exit: item 0 then 2 without -2 within 4", "exit: item 0 then 2 without  within 4", "exit: item 0 then 2 without within 4", "exit: item 0 then 2 without 1", "exit: item 0 then 2 without",
		"exit: item 00 then 2 within 4", "exit: item 0 then 02 within 4", "exit: item 0 then 2 without 01 within 4", "exit: item +0 then 2 within 4", "exit: item 0 then +2 within 4", "exit: item -0 then 2 within 4",
		"exit: item 0 then 2 without +1 within 4", "exit: item 3 then 2 without -0 within 4", "exit: item x then 2 within 4", "exit: item 1 then x within 4", "exit: item 1 then 2 without x within 4", "exit: item  then 2 within 4", "exit: item then 2 within 4",
		"exit: item 1 then  within 4", "exit: item 1 then within 4", "exit: item 10 then 2 within 4", "exit: item 0x1 then 2 within 4", "exit: item 1.0 then 2 within 4", "exit: item 1_0 then 2 within 4",
		"exit: item 18446744073709551616 then 2 within 4", "exit: item 18446744073709551617 then 2 within 4", "exit: item 1 then 18446744073709551618 within 4", "exit: item 4294967296 then 2 within 4",
		// places that are the same
		"exit: item 0 then 0 within 4", "exit: item 2 then 2 without 1 within 4", "exit: item 0 then 2 without 0 within 4", "exit: item 0 then 2 without 2 within 4", "exit: item 3 then 3 without 3 within 4",
		// Within
		"exit: item 0 then 2 within 0", "exit: item 0 then 2 within 51", "exit: item 0 then 2 within -1", "exit: item 0 then 2 within 04", "exit: item 0 then 2 within 00", "exit: item 0 then 2 within +4", "exit: item 0 then 2 within x",
		"exit: item 0 then 2 within 4.0", "exit: item 0 then 2 within 100", "exit: item 0 then 2 within 9223372036854775807", "exit: item 0 then 2 within 9223372036854775808", "exit: item 0 then 2 within 18446744073709551620",
		// words
		"exit: item 0 Then 2 within 4", "exit: item 0 2 within 4", "exit: item 0 than 2 within 4", "exit: item 0  2 within 4", "exit: item 0 then 2 Without 1 within 4", "exit: item 0 then 2 with 1 within 4",
		"exit: item 0 then 2 4", "exit: item 0 then 2 Within 4", "exit: item 0 then 2  4", "exit: item 0 then 2 in 4", "exit: item 0 then 2 without 1 in 4", "exit: item 0 then 2 without 1 4", "exit: item 0 then 2 without 1  4",
		"exit: item 0 without 1 then 2 within 4", "exit: item 0 then 2 within 4 without 1", "exit: item 0 then 2 without 1 without 1 within 4", "exit: item 0 then 2 without 1 without 3 within 4", "exit: item 0 then 2 within 4 within 4", "exit: item 0 within 2 within 4", "exit: item 0 then 2 then 4",
		// blanks
		" exit: item 0 then 2 within 4", "exit: item 0 then 2 within 4 ", "exit:  item 0 then 2 within 4", "exit:item 0 then 2 within 4", "exit: item  0 then 2 within 4", "exit: item 0  then 2 within 4", "exit: item 0 then  2 within 4",
		"exit: item 0 then 2  within 4", "exit: item 0 then 2 within  4", "exit:\titem 0 then 2 within 4", "exit: item 0 then 2 within 4\n", "exit: item\u00a00 then 2 within 4", "exit: item 0then 2 within 4", "exit: item 0 then 2 without  1 within 4", "exit: item 0 then 2 without 1  within 4",
		// more than a text
		"exit: item 0 then 2 within 4x", "exit: item 0 then 2 within 4 x", "exit: item 0 then 2 within 4\x00", "exit: item 0 then 2 within 4 exit: item 0 then 2 within 4", "rule exit: item 0 then 2 within 4",
		// other signs
		"exit: item \u0660 then 2 within 4", "exit: item 0 then \uff12 within 4", "\xff\xfe", "exit\uff1a item 0 then 2 within 4",
		// long
		strings.Repeat("a", 1<<20), strings.Repeat(" ", 1<<20), strings.Repeat("a", 1<<20) + ": item 0 then 2 within 4", "exit: " + strings.Repeat("item ", 1<<18), "exit: item " + strings.Repeat("0", 1<<20) + " then 2 within 4", "exit: item 0 then 2 within " + strings.Repeat("4", 1<<20), "exit: item 0 then 2 within 4" + strings.Repeat(" ", 1<<20),
	} {
		unread(t, s)
	}
	for _, k := range known {
		for i := range k.text {
			reads(t, k.text[:i])
			reads(t, k.text[i+1:])
		}
	}
}

var shape = regexp.MustCompile(`^([a-z]{1,12}): (any|item|case|pallet) ([0-7]) then ([0-7])(?: without ([0-7]))? within ([1-9]|[1-4][0-9]|50)$`)

// plainParse: what a text should be read as, by another way than the program's.
func plainParse(s string) (api.Rule, error) {
	m := shape.FindStringSubmatch(s)
	if m == nil || m[3] == m[4] || m[3] == m[5] || m[4] == m[5] {
		return api.Rule{}, api.ErrText
	}
	number := func(s string) int {
		n, err := strconv.Atoi(s)
		if err != nil {
			return -1 // there is no Without
		}
		return n
	}
	return api.Rule{Name: m[1], Kind: slices.Index([]string{"any", "item", "case", "pallet"}, m[2]), First: number(m[3]), Then: number(m[4]), Without: number(m[5]), Within: number(m[6])}, nil
}

// reads: does Parse answer as the plain one does, and is what it reads written so?
func reads(t testing.TB, s string) {
	t.Helper()
	want, wantErr := plainParse(s)
	if wantErr != nil {
		unread(t, s)
		return
	}
	if got, err := rule.Parse(s); err != nil || got != want {
		t.Fatalf("Parse(%q): %+v, %v; %+v is wanted", s, got, err, want)
	}
	if back, err := rule.Text(want); err != nil || back != s {
		t.Fatalf("Text(%+v): %q, %v; %q is wanted", want, back, err, s)
	}
}

// F1: with one byte of a text changed, left out or put in.
func TestParseNearTexts(t *testing.T) {
	for _, k := range known {
		for i := range len(k.text) + 1 {
			head, tail := k.text[:i], k.text[i:]
			for c := range 256 {
				s := string([]byte{byte(c)})
				reads(t, head+s+tail)
				if tail != "" {
					reads(t, head+s+tail[1:])
				}
			}
			if tail != "" {
				reads(t, head+tail[1:])
			}
		}
	}
}

// F1: with words changed, left out, told twice or put in.
func TestParseNearWords(t *testing.T) {
	others := []string{"", "exit:", "a:", "any", "item", "case", "pallet", "then", "without", "within", "-1", "0", "1", "2", "7", "8", "9", "49", "50", "51", "-2", "x"}
	for _, k := range known {
		words := strings.Split(k.text, " ")
		for i := range len(words) + 1 {
			for _, o := range others {
				reads(t, strings.Join(slices.Insert(slices.Clone(words), i, o), " "))
				for _, o2 := range others {
					reads(t, strings.Join(slices.Insert(slices.Clone(words), i, o, o2), " "))
				}
				if i < len(words) {
					l := slices.Clone(words)
					l[i] = o
					reads(t, strings.Join(l, " "))
				}
			}
			if i < len(words) {
				reads(t, strings.Join(slices.Delete(slices.Clone(words), i, i+1), " "))
			}
			for j := range i {
				if i < len(words) {
					l := slices.Clone(words)
					l[i], l[j] = l[j], l[i]
					reads(t, strings.Join(l, " "))
				}
			}
		}
	}
}

// Z3: errors are bare ones of package api.
func TestErrorsAreBare(t *testing.T) {
	_, text := rule.Text(with(exit, func(r *api.Rule) { r.Kind = 4 }))
	_, read := rule.Parse("x")
	for _, c := range []struct {
		err  error
		want api.Errno
	}{
		{rule.Check(api.Rule{}), api.ErrText},
		{rule.Check(with(exit, func(r *api.Rule) { r.Within = 0 })), api.ErrBound},
		{rule.Check(with(exit, func(r *api.Rule) { r.Then = r.First })), api.ErrShape},
		{text, api.ErrBound},
		{read, api.ErrText},
	} {
		if got, ok := c.err.(api.Errno); !ok || got != c.want {
			t.Errorf("%T %v; %v is wanted", c.err, c.err, c.want)
		}
	}
}

// Z2: neither a rule that is read nor a text that is written shares memory with what was handed in.
func TestMemory(t *testing.T) {
	b := []byte(known[0].text)
	r, err := rule.Parse(unsafe.String(&b[0], len(b)))
	if err != nil {
		t.Fatal(err)
	}
	name := []byte("walk")
	s, err := rule.Text(with(exit, func(r *api.Rule) { r.Name = unsafe.String(&name[0], len(name)) }))
	if err != nil {
		t.Fatal(err)
	}
	clear(b)
	clear(name)
	if r != exit {
		t.Errorf("%+v", r)
	}
	if s != "walk: item 0 then 2 without 1 within 4" {
		t.Errorf("%q", s)
	}
}

func bytesOf(kind, serial int) string {
	b, err := tag.Bytes(api.Tag{Kind: kind, Part: 5, Serial: serial})
	if err != nil {
		panic(err)
	}
	return b
}

const nowhere = -1

// trackOf a tag that is at these places, epoch by epoch (-1: nowhere).
func trackOf(t testing.TB, s string, places ...int) *track.Track {
	t.Helper()
	k, err := track.New(1, 1)
	if err != nil {
		t.Fatal(err)
	}
	for _, place := range places {
		var l []api.Sight
		if place != nowhere {
			l = append(l, api.Sight{Place: place, Strength: 1, Tag: s})
		}
		if err := k.Tell(l); err != nil {
			t.Fatal(err)
		}
	}
	return k
}

// holdsIn: does the rule hold of the tag in just these epochs?
func holdsIn(t testing.TB, k *track.Track, r api.Rule, s string, want ...int) {
	t.Helper()
	for e := -2; e <= k.Epochs()+1; e++ {
		if got := rule.Holds(k, r, s, e); got != slices.Contains(want, e) {
			t.Errorf("Holds(%s, %.20x, %d): %t", short(r), s, e, got)
		}
	}
}

// F2: by hand.
func TestKnownHolds(t *testing.T) {
	i := bytesOf(api.Item, 1)
	with := func(without, within int) api.Rule {
		return api.Rule{Name: "a", First: 0, Then: 2, Without: without, Within: within}
	}
	for _, c := range []struct {
		what   string
		rule   api.Rule
		places []int
		want   []int
	}{
		{"at once", with(1, 1), []int{0, 2}, []int{1}},
		{"the other way round", with(1, 5), []int{2, 0}, nil},
		{"there and back", with(1, 5), []int{2, 0, 2, 0, 2}, []int{2, 4}},
		{"only First", with(1, 5), []int{0, 0, 0}, nil},
		{"only Then", with(1, 5), []int{2, 2, 2}, nil},
		{"it stays at Then", with(1, 5), []int{0, 2, 2, 2}, []int{1}},
		{"it stays at First: Within is from its coming", with(1, 3), []int{0, 0, 0, 2}, []int{3}},
		{"it stays at First too long", with(1, 2), []int{0, 0, 0, 2}, nil},
		{"within", with(-1, 3), []int{0, 3, 3, 2}, []int{3}},
		{"not within", with(-1, 2), []int{0, 3, 3, 2}, nil},
		{"within one", with(-1, 1), []int{0, 3, 2}, nil},
		{"without", with(1, 5), []int{0, 3, 2}, []int{2}},
		{"not without", with(1, 5), []int{0, 1, 2}, nil},
		{"not without, at once", with(1, 5), []int{0, 1, 3, 2}, nil},
		{"not without, at last", with(1, 5), []int{0, 3, 1, 2}, nil},
		{"never mind", with(-1, 5), []int{0, 1, 2}, []int{2}},
		{"never mind that it is nowhere", with(-1, 5), []int{0, -1, 2}, []int{2}},
		{"nowhere is not at Without", with(1, 5), []int{0, -1, 2}, []int{2}},
		{"at Without ahead of First", with(1, 5), []int{1, 0, 2}, []int{2}},
		{"at Without behind Then", with(1, 5), []int{0, 2, 1}, []int{1}},
		{"at Without, and at First again", with(1, 5), []int{0, 1, 0, 2}, []int{3}},
		{"at First again, and at Without", with(1, 5), []int{0, 3, 0, 1, 2}, nil},
		{"it comes to First again too late for the earlier time", with(-1, 2), []int{0, 3, 3, 0, 2}, []int{4}},
		{"again to Then: the first time is not over", with(1, 5), []int{0, 2, 3, 2}, []int{1, 3}},
		{"again to Then, but by Without", with(1, 5), []int{0, 2, 1, 2}, []int{1}},
		{"it leaves Then for nowhere, and comes again", with(1, 5), []int{0, 2, -1, 2}, []int{1, 3}},
		{"it leaves First for nowhere", with(1, 2), []int{0, -1, 0, 2}, []int{3}},
		{"it was at First ahead of all, and Within is long", with(1, 50), []int{0, 3, 3, 3, 3, 3, 3, 3, 3, 2}, []int{9}},
		{"it was seen late", with(1, 5), []int{-1, -1, -1, 0, 2}, []int{4}},
		{"never seen at all", with(1, 5), []int{-1, -1}, nil},
		{"nothing told", with(1, 5), nil, nil},
	} {
		t.Run(c.what, func(t *testing.T) {
			holdsIn(t, trackOf(t, i, c.places...), c.rule, i, c.want...)
		})
	}
}

// F2: of each Within: just as many epochs ahead, and not one more.
func TestEachWithin(t *testing.T) {
	i := bytesOf(api.Item, 1)
	for gap := 1; gap <= 53; gap++ {
		k := trackOf(t, i, append(append([]int{4, 0}, slices.Repeat([]int{3}, gap-1)...), 2)...)
		for within := 1; within <= 50; within++ {
			r := api.Rule{Name: "a", First: 0, Then: 2, Without: -1, Within: within}
			if gap <= within {
				holdsIn(t, k, r, i, gap+1)
			} else {
				holdsIn(t, k, r, i)
			}
		}
	}
}

// F2: of each way from one place to another one by a third.
func TestEachPlace(t *testing.T) {
	i := bytesOf(api.Item, 1)
	for first := range 8 {
		for then := range 8 {
			for by := -1; by < 8; by++ {
				if first == then || by == first || by == then {
					continue
				}
				k := trackOf(t, i, first, by, then)
				for without := -1; without < 8; without++ {
					if without == first || without == then {
						continue
					}
					r := api.Rule{Name: "a", First: first, Then: then, Without: without, Within: 2}
					if without == by && by >= 0 {
						holdsIn(t, k, r, i)
					} else {
						holdsIn(t, k, r, i, 2)
					}
				}
			}
		}
	}
}

// F2: of each Kind of tags and of rules.
func TestKinds(t *testing.T) {
	for kind := api.Item; kind <= api.Pallet; kind++ {
		s := bytesOf(kind, 7)
		k := trackOf(t, s, 0, 2)
		for of := range 4 {
			r := api.Rule{Name: "a", Kind: of, First: 0, Then: 2, Without: -1, Within: 1}
			if of == 0 || of == kind {
				holdsIn(t, k, r, s, 1)
			} else {
				holdsIn(t, k, r, s)
			}
		}
	}
}

// notTags: texts that a track takes, but that are no tags.
func notTags() []string {
	c := bytesOf(api.Case, 0)
	return []string{
		"", "a", c[:7], c + "\x00", c[1:] + "0", "case:0.0.000000.0",
		"\x2f" + c[1:], "\x33" + c[1:], "\xff" + c[1:], "\x00" + c[1:], // no Kind
		c[:1] + "\x18" + c[2:], c[:1] + "\x1c" + c[2:], // no Part
		c[:1] + "\x16\x80" + c[3:], c[:1] + "\x17" + c[2:], // a Company of more than a digit
		strings.Repeat("\xff", 8), strings.Repeat("\x00", 8), strings.Repeat("2", 1<<12),
	}
}

// F2, Z1: of what is no tag, or was never told, no rule holds.
func TestNoTags(t *testing.T) {
	r := api.Rule{Name: "a", First: 0, Then: 2, Without: -1, Within: 1}
	for _, s := range notTags() {
		k := trackOf(t, s, 0, 2)
		if !k.Comes(s, 0, 0) || !k.Comes(s, 2, 1) {
			t.Fatalf("%x doesn't come", s)
		}
		for kind := range 4 {
			holdsIn(t, k, with(r, func(r *api.Rule) { r.Kind = kind }), s)
		}
	}
	k := trackOf(t, bytesOf(api.Item, 1), 0, 2)
	for _, s := range append(notTags(), bytesOf(api.Item, 2), bytesOf(api.Case, 1), bytesOf(api.Pallet, 1)) {
		holdsIn(t, k, r, s)
	}
	holdsIn(t, k, r, bytesOf(api.Item, 1), 1)
}

// F2, Z1: a rule that is wrong never holds, though it would if it were not looked at.
func TestWrongRules(t *testing.T) {
	i := bytesOf(api.Item, 1)
	right := api.Rule{Name: "a", Kind: api.Item, First: 0, Then: 2, Without: 1, Within: 4}
	k := trackOf(t, i, 0, 2, -1, 0, 3, 2, 0, 0, 2)
	holdsIn(t, k, right, i, 1, 5, 8)
	for _, name := range badNames() {
		holdsIn(t, k, with(right, func(r *api.Rule) { r.Name = name }), i)
	}
	for _, f := range fields {
		for _, n := range append(far, f.low-1, f.high+1) {
			holdsIn(t, k, with(right, func(r *api.Rule) { *f.of(r) = n }), i)
		}
	}
	for place := range 8 {
		holdsIn(t, k, with(right, func(r *api.Rule) { r.First, r.Then = place, place }), i)
	}
	holdsIn(t, k, with(right, func(r *api.Rule) { r.Without = 0 }), i)
	holdsIn(t, k, with(right, func(r *api.Rule) { r.Without = 2 }), i)
	// A rule is right by more than what is asked of it here.
	holdsIn(t, k, with(right, func(r *api.Rule) { r.Within = 51 }), i)
	holdsIn(t, k, api.Rule{}, i)
}

// F2, Z1: epochs that were not told.
func TestFarEpochs(t *testing.T) {
	i := bytesOf(api.Item, 1)
	k := trackOf(t, i, 0, 2)
	for _, r := range []api.Rule{{Name: "a", First: 0, Then: 2, Without: -1, Within: 50}, {Name: "a", First: 2, Then: 0, Without: 1, Within: 1}} {
		for _, epoch := range append(far, -1, 2, 3, 50, 51) {
			if rule.Holds(k, r, i, epoch) {
				t.Errorf("Holds(%+v, %d)", r, epoch)
			}
		}
	}
}

// F2: where a tag is told by the track, not by its sights.
func TestSmoothed(t *testing.T) {
	i := bytesOf(api.Item, 1)
	k, err := track.New(3, 2)
	if err != nil {
		t.Fatal(err)
	}
	for _, place := range []int{0, 0, 1, 2, 2, 2, 0, 2} {
		if err := k.Tell([]api.Sight{{Place: place, Strength: 1, Tag: i}}); err != nil {
			t.Fatal(err)
		}
	}
	for e, want := range []int{-1, 0, 0, -1, 2, 2, 2, 2} {
		if at, err := k.Where(i, e); at != want || err != nil {
			t.Fatalf("epoch %d: %d, %v", e, at, err)
		}
	}
	// It was seen at place 1, but never was there.
	r := api.Rule{Name: "a", First: 0, Then: 2, Without: 1, Within: 3}
	holdsIn(t, k, r, i, 4)
	holdsIn(t, k, with(r, func(r *api.Rule) { r.Within = 2 }), i)
}

// F2, Z2: what is asked changes nothing of the track; each tag's way is its own; what is told later is answered, and changes nothing of what was.
func TestTold(t *testing.T) {
	i, c := bytesOf(api.Item, 1), bytesOf(api.Case, 1)
	r := api.Rule{Name: "a", First: 0, Then: 2, Without: 1, Within: 3}
	k := trackOf(t, i, 0, 3)
	holdsIn(t, k, r, i)
	tell := func(item, box int) {
		if err := k.Tell([]api.Sight{{Place: item, Tag: i}, {Place: box, Tag: c}}); err != nil {
			t.Fatal(err)
		}
	}
	tell(2, 0)
	holdsIn(t, k, r, i, 2)
	holdsIn(t, k, r, c)
	tell(1, 2)
	holdsIn(t, k, r, i, 2)
	holdsIn(t, k, r, c, 3)
	tell(2, 1)
	holdsIn(t, k, r, i, 2)
	holdsIn(t, k, r, c, 3)
	if k.Epochs() != 5 {
		t.Errorf("%d epochs", k.Epochs())
	}
	other := trackOf(t, i, 0, 1, 2)
	holdsIn(t, other, r, i)
	holdsIn(t, k, r, i, 2)
}

// Z2: a tag that is handed in is not kept.
func TestTagIsNotKept(t *testing.T) {
	i := bytesOf(api.Item, 1)
	b := []byte("some " + i + " text")
	piece := unsafe.String(&b[0], len(b))[5:13]
	r := api.Rule{Name: "a", First: 0, Then: 2, Without: 1, Within: 3}
	k := trackOf(t, i, 0, 2)
	holdsIn(t, k, r, piece, 1)
	clear(b)
	holdsIn(t, k, r, i, 1)
	holdsIn(t, k, r, piece)
	count := 0
	for s := range k.Tags() {
		count++
		if s != i {
			t.Errorf("%x", s)
		}
	}
	if count != 1 {
		t.Errorf("%d tags", count)
	}
}

// plainHolds: what the chapter says, by another way than the program's: forward, from where the tag is in all epochs.
func plainHolds(k *track.Track, r api.Rule, s string, epoch int) bool {
	x, err := tag.Parse(s)
	if rule.Check(r) != nil || err != nil || r.Kind != 0 && r.Kind != x.Kind || epoch < 0 || epoch >= k.Epochs() {
		return false
	}
	var at []int
	for e := range epoch + 1 {
		place, err := k.Where(s, e)
		if err != nil {
			return false
		}
		at = append(at, place)
	}
	comes := func(place, e int) bool { return at[e] == place && (e == 0 || at[e-1] != place) }
	for e := range epoch {
		if epoch-e > r.Within || !comes(r.First, e) {
			continue
		}
		if r.Without >= 0 && slices.Contains(at[e+1:epoch], r.Without) {
			continue
		}
		return comes(r.Then, epoch)
	}
	return false
}

// drawnTrack of few tags, that are at few places.
func drawnTrack(t testing.TB, r *rand.Rand, tags []string) *track.Track {
	t.Helper()
	window := 1 + r.Intn(3)
	k, err := track.New(window, 1+r.Intn(window))
	if err != nil {
		t.Fatal(err)
	}
	for range r.Intn(25) {
		var l []api.Sight
		for range r.Intn(6) {
			l = append(l, api.Sight{Place: r.Intn(4), Strength: r.Intn(3), Tag: tags[r.Intn(len(tags))]})
		}
		if err := k.Tell(l); err != nil {
			t.Fatal(err)
		}
	}
	return k
}

func drawnRule(r *rand.Rand) api.Rule {
	x := api.Rule{Name: "a", Kind: r.Intn(4), First: r.Intn(4), Then: r.Intn(4), Without: r.Intn(5) - 1, Within: 1 + r.Intn(6)}
	if r.Intn(4) == 0 {
		x.Within = 1 + r.Intn(50)
	}
	return x
}

// F2: drawn tracks and rules, against the plain way.
func TestDrawnHolds(t *testing.T) {
	r := rand.New(rand.NewSource(6))
	tags := []string{bytesOf(1, 1), bytesOf(1, 2), bytesOf(2, 1), bytesOf(3, 1), "x"}
	held := 0
	for range 3000 {
		k := drawnTrack(t, r, tags)
		for range 10 {
			x := drawnRule(r)
			for _, s := range tags {
				for e := -1; e <= k.Epochs(); e++ {
					got, want := rule.Holds(k, x, s, e), plainHolds(k, x, s, e)
					if got != want {
						t.Fatalf("Holds(%+v, %x, %d): %t; %t is wanted", x, s, e, got, want)
					}
					if got {
						held++
					}
				}
			}
		}
	}
	if held < 1000 {
		t.Errorf("but %d held: what is drawn says little", held)
	}
}

// W5, F1: drawn numbers: a rule is right just if its plain text is read as it.
func TestDrawnTexts(t *testing.T) {
	r := rand.New(rand.NewSource(7))
	for range 100000 {
		name := make([]byte, r.Intn(15))
		for i := range name {
			name[i] = byte('a' + r.Intn(26))
			if r.Intn(60) == 0 {
				name[i] = byte(r.Intn(256))
			}
		}
		x := api.Rule{Name: string(name), Kind: r.Intn(5), First: r.Intn(9), Then: r.Intn(9), Without: r.Intn(10) - 1, Within: r.Intn(53)}
		s, err := rule.Text(x)
		if err != nil {
			unread(t, plainText(x))
			continue
		}
		if s != plainText(x) {
			t.Fatalf("Text(%+v): %q", x, s)
		}
		reads(t, s)
	}
}

// FuzzRule: texts and tracks of any kind, against the plain ways.
func FuzzRule(f *testing.F) {
	for _, k := range known {
		f.Add(k.text, k.text, []byte("\x00\x01\x02"), 2)
	}
	f.Add("a: any 0 then 2 without 1 within 3", bytesOf(1, 1), []byte("\x00\x03\x02\x09\x00\x01\x02"), 2)
	f.Fuzz(func(t *testing.T, text, s string, places []byte, epoch int) {
		reads(t, text)
		r, _ := rule.Parse(text)
		var l []int
		for _, b := range places {
			l = append(l, int(b)%(api.Places+1)-1)
		}
		k := trackOf(t, s, l...)
		for _, e := range []int{epoch, len(l) - 1, len(l) - 2} {
			if got, want := rule.Holds(k, r, s, e), plainHolds(k, r, s, e); got != want {
				t.Errorf("Holds(%+v, %x, %d): %t; %t is wanted", r, s, e, got, want)
			}
		}
	})
}
