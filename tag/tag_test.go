package tag_test

import (
	"encoding/hex"
	"math"
	"strings"
	"testing"

	"cratewatch/api"
	"cratewatch/tag"
)

const topSerial = 1<<24 - 1

// parts: the document's table, written out again, so that a slip in the program's own is seen.
var parts = []struct{ companyBits, companyTop, companyDigits, refBits, refTop, refDigits int }{
	{20, 999999, 6, 6, 9, 1},
	{17, 99999, 5, 9, 99, 2},
	{14, 9999, 4, 12, 999, 3},
	{10, 999, 3, 16, 9999, 4},
	{7, 99, 2, 19, 99999, 5},
	{4, 9, 1, 22, 999999, 6},
}

// known: tags, their bytes and their texts, worked out by hand.
var known = []struct {
	tag  api.Tag
	hex  string
	text string
}{
	{api.Tag{Kind: api.Case, Filter: 1, Part: 3, Company: 7, Ref: 12, Serial: 5}, "312c07000c000005", "case:1.007.0012.5"},
	{api.Tag{Kind: api.Item}, "3000000000000000", "item:0.000000.0.0"},
	{api.Tag{Kind: api.Item, Part: 1}, "3004000000000000", "item:0.00000.00.0"},
	{api.Tag{Kind: api.Case, Filter: 1, Company: 9, Serial: 1}, "3120000240000001", "case:1.000009.0.1"},
	{api.Tag{Kind: api.Case, Part: 2, Company: 1, Ref: 1}, "3108001001000000", "case:0.0001.001.0"},
	{api.Tag{Kind: api.Pallet, Filter: 7, Company: 999999, Ref: 9, Serial: topSerial}, "32e3d08fc9ffffff", "pallet:7.999999.9.16777215"},
	{api.Tag{Kind: api.Pallet, Filter: 7, Part: 5, Company: 9, Ref: 999999, Serial: topSerial}, "32f64f423fffffff", "pallet:7.9.999999.16777215"},
	{api.Tag{Kind: api.Item, Filter: 2, Part: 4, Company: 10, Ref: 100, Serial: 1000}, "30505000640003e8", "item:2.10.00100.1000"},
}

// good: tags at the edges and in the middle of every Kind, Filter and Part.
func good() []api.Tag {
	var l []api.Tag
	for kind := api.Item; kind <= api.Pallet; kind++ {
		for filter := range 8 {
			for part, p := range parts {
				for _, company := range []int{0, 1, p.companyTop/10 + 1, p.companyTop} {
					for _, ref := range []int{0, 1, p.refTop/10 + 1, p.refTop} {
						for _, serial := range []int{0, 9, 10, 70000, topSerial} {
							l = append(l, api.Tag{Kind: kind, Filter: filter, Part: part, Company: company, Ref: ref, Serial: serial})
						}
					}
				}
			}
		}
	}
	return l
}

// bad: tags with one field out of bounds each.
func bad() []api.Tag {
	far := []int{math.MinInt, math.MinInt32, -1, math.MaxInt32, math.MaxInt}
	var l []api.Tag
	for part, p := range parts {
		base := api.Tag{Kind: api.Case, Filter: 3, Part: part, Company: 1, Ref: 1, Serial: 1}
		spoil := func(field func(*api.Tag) *int, more ...int) {
			for _, n := range append(more, far...) {
				t := base
				*field(&t) = n
				l = append(l, t)
			}
		}
		spoil(func(t *api.Tag) *int { return &t.Kind }, 0, 4, 50, 259)
		spoil(func(t *api.Tag) *int { return &t.Filter }, 8, 256)
		spoil(func(t *api.Tag) *int { return &t.Part }, 6, 7, 8)
		spoil(func(t *api.Tag) *int { return &t.Company }, p.companyTop+1, 1<<p.companyBits-1, 1<<p.companyBits)
		spoil(func(t *api.Tag) *int { return &t.Ref }, p.refTop+1, 1<<p.refBits-1, 1<<p.refBits)
		spoil(func(t *api.Tag) *int { return &t.Serial }, topSerial+1, topSerial+2)
	}
	return append(l, api.Tag{})
}

func unhex(t *testing.T, s string) string {
	t.Helper()
	b, err := hex.DecodeString(s)
	if err != nil {
		t.Fatal(err)
	}
	return string(b)
}

// refused: does Parse answer ErrShape, and no tag?
func refused(t *testing.T, b string) {
	t.Helper()
	if got, err := tag.Parse(b); err != api.ErrShape || got != (api.Tag{}) {
		t.Errorf("Parse(%x): %v, %v; ErrShape is wanted", b, got, err)
	}
}

// unread: does Of answer ErrText, and no tag?
func unread(t *testing.T, s string) {
	t.Helper()
	if got, err := tag.Of(s); err != api.ErrText || got != (api.Tag{}) {
		t.Errorf("Of(%.60q): %v, %v; ErrText is wanted", s, got, err)
	}
}

// A1: what is a tag.
func TestCheckTakesTags(t *testing.T) {
	for _, g := range good() {
		if err := tag.Check(g); err != nil {
			t.Errorf("Check(%+v): %v", g, err)
		}
	}
}

// A1, Z1, Z3: what is none, and that nothing but the error is answered then.
func TestNoTagIsErrBound(t *testing.T) {
	for _, b := range bad() {
		if err := tag.Check(b); err != api.ErrBound {
			t.Errorf("Check(%+v): %v", b, err)
		}
		if s, err := tag.Bytes(b); s != "" || err != api.ErrBound {
			t.Errorf("Bytes(%+v): %x, %v", b, s, err)
		}
		if s, err := tag.Text(b); s != "" || err != api.ErrBound {
			t.Errorf("Text(%+v): %q, %v", b, s, err)
		}
	}
}

// A1: a number that has too many digits for one Part is right for another one.
func TestDigitsHangOnPart(t *testing.T) {
	for part, p := range parts {
		for company := 1; company <= 1000000; company *= 10 {
			want := company <= p.companyTop
			x := api.Tag{Kind: api.Item, Part: part, Company: company}
			if got := tag.Check(x) == nil; got != want {
				t.Errorf("Check(%+v): right: %v", x, got)
			}
		}
		for ref := 1; ref <= 1000000; ref *= 10 {
			want := ref <= p.refTop
			x := api.Tag{Kind: api.Item, Part: part, Ref: ref}
			if got := tag.Check(x) == nil; got != want {
				t.Errorf("Check(%+v): right: %v", x, got)
			}
		}
	}
}

// A2: bytes of tags that are worked out by hand, both ways.
func TestKnownBytes(t *testing.T) {
	for _, k := range known {
		b, err := tag.Bytes(k.tag)
		if err != nil || hex.EncodeToString([]byte(b)) != k.hex {
			t.Errorf("Bytes(%+v): %x, %v; %s is wanted", k.tag, b, err, k.hex)
		}
		got, err := tag.Parse(unhex(t, k.hex))
		if err != nil || got != k.tag {
			t.Errorf("Parse(%s): %+v, %v; %+v is wanted", k.hex, got, err, k.tag)
		}
	}
}

// A2: each field stands where it should, put there by another way than the program's.
func TestFieldsStandInBytes(t *testing.T) {
	for _, g := range good() {
		p := parts[g.Part]
		b, err := tag.Bytes(g)
		if err != nil || len(b) != api.TagBytes {
			t.Fatalf("Bytes(%+v): %x, %v", g, b, err)
		}
		var bits strings.Builder
		for i := range len(b) {
			for j := 7; j >= 0; j-- {
				bits.WriteByte('0' + b[i]>>j&1)
			}
		}
		want := binary(g.Kind+47, 8) + binary(g.Filter, 3) + binary(g.Part, 3) +
			binary(g.Company, p.companyBits) + binary(g.Ref, p.refBits) + binary(g.Serial, 24)
		if bits.String() != want {
			t.Fatalf("Bytes(%+v): %s; %s is wanted", g, bits.String(), want)
		}
	}
}

func binary(n, bits int) string {
	s := ""
	for range bits {
		s = string(rune('0'+n%2)) + s
		n /= 2
	}
	return s
}

// A2: bytes too few or too many.
func TestParseWantsTagBytes(t *testing.T) {
	whole := unhex(t, known[0].hex)
	for i := range whole {
		refused(t, whole[:i])
	}
	refused(t, whole+"\x00")
	refused(t, "\x00"+whole)
	refused(t, whole+whole)
	refused(t, strings.Repeat(whole, 100000))
}

// A2: bytes of a Kind or a Part that there isn't.
func TestParseRefusesKindsAndParts(t *testing.T) {
	whole := []byte(unhex(t, "3000000000000000"))
	for first := range 256 {
		whole[0] = byte(first)
		got, err := tag.Parse(string(whole))
		if 48 <= first && first <= 50 {
			if err != nil || got != (api.Tag{Kind: first - 47}) {
				t.Errorf("Parse(%x): %v, %v", whole, got, err)
			}
			continue
		}
		refused(t, string(whole))
	}
	for _, h := range []string{"3018000000000000", "301c000000000000", "32f8000000000001", "31fc000000000001"} {
		refused(t, unhex(t, h))
	}
}

// A2: bytes whose Company or Ref is of too many digits, though it is of so many bits.
func TestParseRefusesDigits(t *testing.T) {
	for part, p := range parts {
		pack := func(company, ref int) string {
			n := uint64(48)<<56 | uint64(part)<<50 | uint64(company)<<(50-p.companyBits) | uint64(ref)<<24
			var b [8]byte
			for i := range b {
				b[i] = byte(n >> (56 - 8*i))
			}
			return string(b[:])
		}
		want := api.Tag{Kind: api.Item, Part: part, Company: p.companyTop, Ref: p.refTop}
		if got, err := tag.Parse(pack(p.companyTop, p.refTop)); err != nil || got != want {
			t.Errorf("Part %d: %+v, %v; %+v is wanted", part, got, err, want)
		}
		for _, company := range []int{p.companyTop + 1, 1<<p.companyBits - 1} {
			refused(t, pack(company, 0))
			refused(t, pack(company, p.refTop))
		}
		for _, ref := range []int{p.refTop + 1, 1<<p.refBits - 1} {
			refused(t, pack(0, ref))
			refused(t, pack(p.companyTop, ref))
		}
	}
}

// A3: texts of tags that are worked out by hand, both ways.
func TestKnownTexts(t *testing.T) {
	for _, k := range known {
		if s, err := tag.Text(k.tag); err != nil || s != k.text {
			t.Errorf("Text(%+v): %q, %v; %q is wanted", k.tag, s, err, k.text)
		}
		if got, err := tag.Of(k.text); err != nil || got != k.tag {
			t.Errorf("Of(%q): %+v, %v; %+v is wanted", k.text, got, err, k.tag)
		}
	}
}

// A3: Company and Ref have the digits of their Part, the other numbers no noughts ahead.
func TestTextDigits(t *testing.T) {
	for _, g := range good() {
		p := parts[g.Part]
		s, err := tag.Text(g)
		if err != nil {
			t.Fatalf("Text(%+v): %v", g, err)
		}
		_, rest, _ := strings.Cut(s, ":")
		l := strings.Split(rest, ".")
		if len(l) != 4 || len(l[0]) != 1 || len(l[1]) != p.companyDigits || len(l[2]) != p.refDigits {
			t.Errorf("Text(%+v): %q", g, s)
		}
		if serial := l[len(l)-1]; serial != "0" && strings.HasPrefix(serial, "0") {
			t.Errorf("Text(%+v): %q", g, s)
		}
	}
}

// A3: texts that are no tag's.
func TestOfRefuses(t *testing.T) {
	for _, s := range []string{
		"", ":", "item", "item:", "item:...", ":0.000000.0.0", "0.000000.0.0", ".0.000000.0.0",
		// words
		"Item:0.000000.0.0", "ITEM:0.000000.0.0", "items:0.000000.0.0", "ite:0.000000.0.0", "any:0.000000.0.0",
		"item0.000000.0.0", "item::0.000000.0.0", "item;0.000000.0.0", "item.0.000000.0.0", "1:0.000000.0.0", "item:case:0.000000.0.0",
		// Filter
		"item:8.000000.0.0", "item:10.000000.0.0", "item:00.000000.0.0", "item:01.000000.0.0", "item:.000000.0.0",
		"item:-0.000000.0.0", "item:-1.000000.0.0", "item:+1.000000.0.0", "item:a.000000.0.0",
		// Company and Ref: digits that no Part has
		"item:0.0000000.0.0", "item:0.0000000..0", "item:0..0000000.0", "item:0..0.0", "item:0.000000..0",
		"item:0.00000.0.0", "item:0.000000.00.0", "item:0.0.0.0", "item:0.1.1.1", "item:0.000.000.0", "item:0.0000.0000.0",
		"item:0.00000000000000000000.0.0", "item:0.0.00000000000000000000.0",
		// Company and Ref: what are no digits
		"item:0.+00000.0.0", "item:0.-00000.0.0", "item:0.-00001.0.0", "item:0.00000.+1.0", "item:0.00000.-1.0", "item:0.00000.-0.0",
		"item:0.00000a.0.0", "item:0.0x0000.0.0", "item:0.0_0000.0.0", "item:0.000000.a.0", "item:0.00 000.0.0", "item:0.0e0.0000.0",
		// Serial
		"item:0.000000.0.16777216", "item:0.000000.0.99999999", "item:0.000000.0.00", "item:0.000000.0.01", "item:0.000000.0.016777215",
		"item:0.000000.0.", "item:0.000000.0", "item:0.000000.0.-0", "item:0.000000.0.-1", "item:0.000000.0.+1", "item:0.000000.0.1_0", "item:0.000000.0.0x1",
		"item:0.000000.0.9223372036854775807", "item:0.000000.0.9223372036854775808", "item:0.000000.0.18446744073709551616", "item:0.000000.0.18446744073709551617",
		// more than a text
		"item:0.000000.0.0.", "item:0.000000.0.0.0", ".item:0.000000.0.0", " item:0.000000.0.0", "item:0.000000.0.0 ", "item: 0.000000.0.0",
		"item:0.000000.0.0\n", "item:0.000000.0.0\x00", "item:0.000000.0.0:", "item:0,000000,0,0",
		// other signs for digits
		"item:\u0660.000000.0.0", "item:0.000000.\uff10.0", "\xff\xfe", "item:0.\xff00000.0.0",
		// long
		strings.Repeat(".", 1<<20), "item:" + strings.Repeat(".", 1<<20), "item:0.000000.0." + strings.Repeat("1", 1<<20), "item:0." + strings.Repeat("0", 1<<20) + ".0.0",
	} {
		unread(t, s)
	}
	for _, k := range known {
		for i := range k.text {
			if i < strings.LastIndex(k.text, ".")+2 {
				unread(t, k.text[:i])
			}
		}
	}
}

// A3: with one byte of a text changed, Of answers just what Text would write so.
func TestOfIsTextTurnedRound(t *testing.T) {
	for _, k := range known {
		for i := range k.text {
			for c := range 256 {
				s := k.text[:i] + string([]byte{byte(c)}) + k.text[i+1:]
				got, err := tag.Of(s)
				if err != nil {
					unread(t, s)
					continue
				}
				if back, err := tag.Text(got); err != nil || back != s {
					t.Errorf("Of(%q): %+v, whose text is %q, %v", s, got, back, err)
				}
			}
		}
	}
}

// A2: with one bit of a tag's bytes changed, Parse answers just what Bytes would write so.
func TestParseIsBytesTurnedRound(t *testing.T) {
	for _, k := range known {
		whole := unhex(t, k.hex)
		for bit := range 64 {
			x := []byte(whole)
			x[bit/8] ^= 1 << (bit % 8)
			got, err := tag.Parse(string(x))
			if err != nil {
				refused(t, string(x))
				continue
			}
			if back, err := tag.Bytes(got); err != nil || back != string(x) {
				t.Errorf("Parse(%x): %+v, whose bytes are %x, %v", x, got, back, err)
			}
		}
	}
}

// W5: what is written is read; and no two tags are written alike.
func TestWrittenIsRead(t *testing.T) {
	seen := map[string]api.Tag{}
	for _, g := range good() {
		b, err := tag.Bytes(g)
		if err != nil {
			t.Fatalf("Bytes(%+v): %v", g, err)
		}
		if back, err := tag.Parse(b); err != nil || back != g {
			t.Errorf("Parse(Bytes(%+v)): %+v, %v", g, back, err)
		}
		s, err := tag.Text(g)
		if err != nil {
			t.Fatalf("Text(%+v): %v", g, err)
		}
		if back, err := tag.Of(s); err != nil || back != g {
			t.Errorf("Of(Text(%+v)): %+v, %v", g, back, err)
		}
		for _, w := range []string{b, s} {
			if other, ok := seen[w]; ok && other != g {
				t.Errorf("%+v and %+v are both written %q", g, other, w)
			}
			seen[w] = g
		}
	}
}

// Z3: errors are bare ones of package api.
func TestErrorsAreBare(t *testing.T) {
	_, shape := tag.Parse("")
	_, text := tag.Of("")
	for err, want := range map[error]api.Errno{tag.Check(api.Tag{}): api.ErrBound, shape: api.ErrShape, text: api.ErrText} {
		if got, ok := err.(api.Errno); !ok || got != want {
			t.Errorf("%T %v; %v is wanted", err, err, want)
		}
	}
}

// Z1: no bytes and no texts make a call panic.
func FuzzReading(f *testing.F) {
	for _, k := range known {
		f.Add(k.text)
		b, _ := hex.DecodeString(k.hex)
		f.Add(string(b))
	}
	f.Fuzz(func(t *testing.T, s string) {
		if got, err := tag.Parse(s); err != nil {
			refused(t, s)
		} else if b, err := tag.Bytes(got); err != nil || b != s {
			t.Errorf("Parse(%x): %+v", s, got)
		}
		if got, err := tag.Of(s); err != nil {
			unread(t, s)
		} else if w, err := tag.Text(got); err != nil || w != s {
			t.Errorf("Of(%q): %+v", s, got)
		}
	})
}
