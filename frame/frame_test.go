package frame_test

import (
	"encoding/hex"
	"math"
	"math/rand"
	"reflect"
	"strings"
	"testing"
	"unsafe"

	"cratewatch/api"
	"cratewatch/frame"
)

// known: frames and their bytes, worked out by hand.
var known = []struct {
	frame api.Frame
	hex   string
}{
	{api.Frame{Type: api.Warm, Warm: 21}, "a501031541"},
	{api.Frame{Type: api.Warm}, "a501030056"},
	{api.Frame{Type: api.Warm, Warm: 86}, "a501035600"},
	{api.Frame{Type: api.Warm, Warm: 87}, "a5010357ff"},
	{api.Frame{Type: api.Warm, Warm: 255}, "a50103ff57"},
	{api.Frame{Type: api.Alive}, "a5000258"},
	{api.Frame{Type: api.Reads}, "a5000159"},
	{api.Frame{Type: api.Reads, Reads: []api.Read{{Antenna: 1, Strength: 2, Age: 3, Tag: "\x00\x00\x00\x00\x00\x00\x00\x04"}}}, "a50b0101020300000000000000" + "0444"},
	{api.Frame{Type: api.Reads, Reads: []api.Read{
		{Antenna: 3, Strength: 255, Age: 0, Tag: "\xff\xff\xff\xff\xff\xff\xff\xff"},
		{Antenna: 0, Strength: 0, Age: 255, Tag: "\x00\x01\x00\x00\x00\x00\x00\x00"},
	}}, "a51601" + "03ff00ffffffffffffffff" + "0000ff0001000000000000" + "49"},
}

func unhex(t testing.TB, s string) string {
	t.Helper()
	b, err := hex.DecodeString(s)
	if err != nil {
		t.Fatal(err)
	}
	return string(b)
}

// read that Check takes.
func read() api.Read { return api.Read{Antenna: 2, Strength: 9, Age: 1, Tag: "abcdefgh"} }

// reads: so many of them, the last one spoilt.
func reads(n int, spoil func(*api.Read)) []api.Read {
	var l []api.Read
	for range n {
		l = append(l, read())
	}
	spoil(&l[n-1])
	return l
}

// bytesOf a frame, by hand: the body is told as it is.
func bytesOf(kind byte, body string) string {
	s := string([]byte{165, byte(len(body)), kind}) + body
	sum := 0
	for i := range len(s) {
		sum += int(s[i])
	}
	return s + string([]byte{byte(((255-sum)%256 + 256) % 256)})
}

func written(t testing.TB, f api.Frame) string {
	t.Helper()
	b, err := frame.Bytes(f)
	if err != nil {
		t.Fatalf("Bytes(%+v): %v", f, err)
	}
	return b
}

// good: frames of every Type, at the edges.
func good() []api.Frame {
	l := []api.Frame{{Type: api.Alive}, {Type: api.Alive, Reads: []api.Read{}}, {Type: api.Reads}, {Type: api.Reads, Reads: []api.Read{}}}
	for warm := range 256 {
		l = append(l, api.Frame{Type: api.Warm, Warm: warm})
	}
	for antenna := range api.Antennas {
		for _, n := range []int{0, 1, 164, 165, 254, 255} {
			for _, tag := range []string{"\x00\x00\x00\x00\x00\x00\x00\x00", "\xff\xff\xff\xff\xff\xff\xff\xff", "\xa5\x00\x02\x58\xa5\x00\x02\x58", "item:0.0"} {
				r := api.Read{Antenna: antenna, Strength: n, Age: 255 - n, Tag: tag}
				for count := range api.MaxReads {
					l = append(l, api.Frame{Type: api.Reads, Reads: append(reads(count+1, func(*api.Read) {})[:count], r)})
				}
			}
		}
	}
	return l
}

// wrong: frames that are none, and why.
func wrong() map[api.Errno][]api.Frame {
	far := []int{math.MinInt, math.MinInt32, -256, -1, 256, 257, 65536, math.MaxInt32, math.MaxInt}
	l := map[api.Errno][]api.Frame{
		api.ErrShape: {
			{Type: api.Alive, Reads: []api.Read{read()}},
			{Type: api.Warm, Reads: []api.Read{read()}},
			{Type: api.Alive, Warm: 1},
			{Type: api.Reads, Warm: 1},
			{Type: api.Reads, Warm: 255, Reads: []api.Read{read()}},
			// ahead of what is out of bounds, or too many
			{Type: api.Reads, Warm: -1},
			{Type: api.Alive, Warm: 256},
			{Type: api.Warm, Warm: 256, Reads: []api.Read{read()}},
			{Type: api.Warm, Warm: -1, Reads: make([]api.Read, 9)},
			{Type: api.Alive, Reads: make([]api.Read, 5)},
			{Type: api.Reads, Warm: 7, Reads: make([]api.Read, 5)},
			{Type: api.Reads, Warm: math.MinInt, Reads: make([]api.Read, 1)},
		},
		api.ErrMany: {
			{Type: api.Reads, Reads: reads(5, func(*api.Read) {})},
			{Type: api.Reads, Reads: reads(1000, func(*api.Read) {})},
			// ahead of reads that are out of bounds
			{Type: api.Reads, Reads: make([]api.Read, 5)},
			{Type: api.Reads, Reads: reads(5, func(r *api.Read) { r.Antenna = 4 })},
		},
	}
	bound := func(f api.Frame) { l[api.ErrBound] = append(l[api.ErrBound], f) }
	for _, kind := range append(far, 0, 4, 165) {
		bound(api.Frame{Type: kind})
		// ahead of what may not be so, or is too many
		bound(api.Frame{Type: kind, Warm: 1})
		bound(api.Frame{Type: kind, Reads: make([]api.Read, 5)})
	}
	for _, warm := range far {
		bound(api.Frame{Type: api.Warm, Warm: warm})
	}
	for n := 1; n <= api.MaxReads; n++ {
		spoil := func(how func(*api.Read)) { bound(api.Frame{Type: api.Reads, Reads: reads(n, how)}) }
		for _, x := range far {
			spoil(func(r *api.Read) { r.Strength = x })
			spoil(func(r *api.Read) { r.Age = x })
		}
		for _, x := range append(far, 4, 5, 255) {
			spoil(func(r *api.Read) { r.Antenna = x })
		}
		for _, tag := range []string{"", "1", "1234567", "123456789", strings.Repeat("x", 1000)} {
			spoil(func(r *api.Read) { r.Tag = tag })
		}
		// not the last one alone
		first := reads(n, func(*api.Read) {})
		first[0].Age = 256
		bound(api.Frame{Type: api.Reads, Reads: first})
	}
	return l
}

// B1: what is a frame.
func TestCheckTakesFrames(t *testing.T) {
	for _, g := range good() {
		if err := frame.Check(g); err != nil {
			t.Errorf("Check(%+v): %v", g, err)
		}
	}
}

// B1, B2, Z1, Z3: what is none, which error is told first, a bare one, and nothing beside it.
func TestWhatIsNoFrame(t *testing.T) {
	for want, l := range wrong() {
		for _, f := range l {
			if err := frame.Check(f); err != want {
				t.Errorf("Check(%+v): %v; %v is wanted", f, err, want)
			}
			if b, err := frame.Bytes(f); b != "" || err != want {
				t.Errorf("Bytes(%+v): %x, %v; %v is wanted", f, b, err, want)
			}
		}
	}
}

// B2: bytes of frames that are worked out by hand.
func TestKnownBytes(t *testing.T) {
	for _, k := range known {
		if b, err := frame.Bytes(k.frame); err != nil || hex.EncodeToString([]byte(b)) != k.hex {
			t.Errorf("Bytes(%+v): %x, %v; %s is wanted", k.frame, b, err, k.hex)
		}
	}
}

// B2: every byte stands where it should, and the sum of all is 255.
func TestBytesOfAll(t *testing.T) {
	for _, g := range good() {
		body := ""
		for _, r := range g.Reads {
			body += string([]byte{byte(r.Antenna), byte(r.Strength), byte(r.Age)}) + r.Tag
		}
		if g.Type == api.Warm {
			body = string([]byte{byte(g.Warm)})
		}
		if b := written(t, g); b != bytesOf(byte(g.Type), body) {
			t.Errorf("Bytes(%+v): %x", g, b)
		}
	}
}

// fed: what a line makes of pieces.
func fed(l *frame.Line, pieces ...string) []api.Frame {
	var made []api.Frame
	for _, p := range pieces {
		made = append(made, l.Feed(p)...)
	}
	return made
}

// singly: the bytes of s, each by itself.
func singly(s string) []string {
	var l []string
	for i := range len(s) {
		l = append(l, s[i:i+1])
	}
	return l
}

func sameFrames(a, b []api.Frame) bool {
	if len(a) != len(b) {
		return false
	}
	for i := range a {
		if a[i].Type != b[i].Type || a[i].Warm != b[i].Warm || len(a[i].Reads) != len(b[i].Reads) {
			return false
		}
		for j := range a[i].Reads {
			if a[i].Reads[j] != b[i].Reads[j] {
				return false
			}
		}
	}
	return true
}

// holds: has the line lost and waiting so many bytes?
func holds(t *testing.T, what string, l *frame.Line, lost, waits int) {
	t.Helper()
	if l.Lost() != lost || l.Waits() != waits {
		t.Errorf("%s: %d lost, %d wait; %d and %d are wanted", what, l.Lost(), l.Waits(), lost, waits)
	}
}

// B3: at first there is nothing.
func TestLineAtFirst(t *testing.T) {
	var l frame.Line
	holds(t, "zero value", &l, 0, 0)
	if made := l.Feed(""); len(made) != 0 {
		t.Errorf("frames out of nothing: %v", made)
	}
	holds(t, "nothing fed", &l, 0, 0)
	holds(t, "copy", l.Copy(), 0, 0)
}

// B3, W5: what is written is read: alone, byte by byte, and all together.
func TestWrittenIsRead(t *testing.T) {
	var all strings.Builder
	for _, g := range good() {
		b := written(t, g)
		all.WriteString(b)
		var whole, slow frame.Line
		if made := whole.Feed(b); !sameFrames(made, []api.Frame{g}) {
			t.Errorf("%x: %+v; %+v is wanted", b, made, g)
		}
		holds(t, "whole", &whole, 0, 0)
		for i := range len(b) {
			made := slow.Feed(b[i : i+1])
			if last := i == len(b)-1; last != sameFrames(made, []api.Frame{g}) || !last && len(made) > 0 {
				t.Errorf("%x, after %d bytes: %+v", b, i+1, made)
			} else if !last {
				holds(t, "byte by byte", &slow, 0, i+1)
			}
		}
		holds(t, "byte by byte", &slow, 0, 0)
	}
	var l frame.Line
	if !sameFrames(l.Feed(all.String()), good()) {
		t.Errorf("all frames in a row aren't made again")
	}
	holds(t, "all", &l, 0, 0)
}

// B2, B3: no bytes but a frame's are a frame, whatever their sum.
func TestOtherBytesAreNoFrame(t *testing.T) {
	eleven := "\x00\x01\x02ABCDEFGH"
	var l []string
	for kind := range 256 {
		for n := range 256 {
			fits := kind == api.Alive && n == 0 || kind == api.Warm && n == 1 || kind == api.Reads && n%11 == 0 && n <= 44
			if !fits {
				l = append(l, bytesOf(byte(kind), strings.Repeat(eleven, 24)[:n]))
			}
		}
	}
	for antenna := 4; antenna < 256; antenna++ {
		spoilt := string([]byte{byte(antenna)}) + eleven[1:]
		l = append(l, bytesOf(api.Reads, spoilt), bytesOf(api.Reads, eleven+spoilt), bytesOf(api.Reads, spoilt+eleven), bytesOf(api.Reads, eleven+eleven+eleven+spoilt))
	}
	for _, b := range l {
		var line frame.Line
		if made := line.Feed(b); len(made) > 0 {
			t.Fatalf("%x: %+v", b, made)
		}
		if line.Lost() == 0 || line.Lost()+line.Waits() != len(b) {
			t.Fatalf("%x: %d lost, %d wait", b, line.Lost(), line.Waits())
		}
	}
}

// B2, B3: with one byte of a frame changed, only what Bytes would write so is a frame.
func TestOneByteChanged(t *testing.T) {
	for _, k := range known {
		b := unhex(t, k.hex)
		for i := range len(b) {
			for c := range 256 {
				x := b[:i] + string([]byte{byte(c)}) + b[i+1:]
				var l frame.Line
				made := l.Feed(x)
				if c == int(b[i]) != sameFrames(made, []api.Frame{k.frame}) {
					t.Errorf("%x: %+v", x, made)
				}
				again := 0
				for _, f := range made {
					again += len(written(t, f))
				}
				if again+l.Lost()+l.Waits() != len(x) {
					t.Errorf("%x: %d bytes of frames, %d lost, %d wait", x, again, l.Lost(), l.Waits())
				}
			}
		}
	}
}

// B3: what is lost, what waits, and what is made of what comes behind.
func TestKnownLines(t *testing.T) {
	alive, warm := api.Frame{Type: api.Alive}, api.Frame{Type: api.Warm, Warm: 21}
	long := strings.Repeat("00", 43)
	for _, c := range []struct {
		what, hex   string
		made        []api.Frame
		lost, waits int
	}{
		{"no beginning", "78", nil, 1, 0},
		{"the start alone", "a5", nil, 0, 1},
		{"start and a body of 0", "a500", nil, 0, 2},
		{"start and the longest body", "a52c", nil, 0, 2},
		{"start and a body that is too long", "a52d", nil, 2, 0},
		{"start and 255", "a5ff", nil, 2, 0},
		{"two starts", "a5a5", nil, 1, 1},
		{"three starts", "a5a5a5", nil, 2, 1},
		{"start, something, start", "a52da5", nil, 2, 1},
		{"a Type that there isn't waits as well", "a50009", nil, 0, 3},
		{"and is lost when all is there", "a5000951", nil, 4, 0},
		{"a body that doesn't fit its Type waits as well", "a50302010101", nil, 0, 6},
		{"and is lost when all is there", "a50302010101ff", nil, 7, 0},
		{"the longest that waits", "a52c01" + long + "00", nil, 0, 47},
		{"and is lost when all is there", "a52c01" + long + "0001", nil, 48, 0},
		{"a wrong sum", "a5000259", nil, 4, 0},
		{"a wrong sum, then a frame", "a5000259a5000258", []api.Frame{alive}, 4, 0},
		{"a frame, then a beginning", "a5000258a5", []api.Frame{alive}, 0, 1},
		{"a frame, then none", "a500025800", []api.Frame{alive}, 1, 0},
		{"two frames", "a5000258a501031541", []api.Frame{alive, warm}, 0, 0},
		{"the other way round", "a501031541a5000258", []api.Frame{warm, alive}, 0, 0},
		{"a frame ahead of which stands a start", "a5a5000258", []api.Frame{alive}, 1, 0},
		{"a frame that a beginning hides waits", "a50503a5000258", nil, 0, 7},
		{"and is made when the beginning is lost", "a50503a500025800" + "00", []api.Frame{alive}, 5, 0},
		{"a frame inside of one isn't made", "a50b01000000a5000258a5000258" + "50", []api.Frame{{Type: api.Reads, Reads: []api.Read{{Tag: "\xa5\x00\x02\x58\xa5\x00\x02\x58"}}}}, 0, 0},
		{"two inside of one whose sum is wrong are", "a50b01000000a5000258a5000258" + "51", []api.Frame{alive, alive}, 7, 0},
		{"of what is lost the last may wait", "a50003a5", nil, 3, 1},
	} {
		whole, slow := &frame.Line{}, &frame.Line{}
		b := unhex(t, c.hex)
		if made := whole.Feed(b); !sameFrames(made, c.made) {
			t.Errorf("%s: %s: %+v; %+v is wanted", c.what, c.hex, made, c.made)
		}
		holds(t, c.what+": "+c.hex, whole, c.lost, c.waits)
		if made := fed(slow, singly(b)...); !sameFrames(made, c.made) {
			t.Errorf("%s: %s, byte by byte: %+v; %+v is wanted", c.what, c.hex, made, c.made)
		}
		holds(t, c.what+": "+c.hex+", byte by byte", slow, c.lost, c.waits)
	}
}

// B3: the session of the document.
func TestDocumentLine(t *testing.T) {
	var l frame.Line
	for _, c := range []struct {
		hex               string
		made, lost, waits int
	}{{"78a50002", 0, 1, 3}, {"58a5010315", 1, 1, 4}, {"41", 1, 1, 0}} {
		if made := l.Feed(unhex(t, c.hex)); len(made) != c.made {
			t.Errorf("%s: %v", c.hex, made)
		}
		holds(t, c.hex, &l, c.lost, c.waits)
	}
}

// B3: a copy has what the line has, and neither hears of what the other one is fed.
func TestCopyGoesOnApart(t *testing.T) {
	var l frame.Line
	l.Feed(unhex(t, "7878a501"))
	c := l.Copy()
	holds(t, "copy", c, 2, 2)
	if made := l.Feed("\x03\x15"); len(made) != 0 {
		t.Errorf("line: %v", made)
	}
	holds(t, "copy", c, 2, 2)
	if made := c.Feed(unhex(t, "035600a5")); !sameFrames(made, []api.Frame{{Type: api.Warm, Warm: 86}}) {
		t.Errorf("copy: %v", made)
	}
	holds(t, "copy", c, 2, 1)
	holds(t, "line", &l, 2, 4)
	if made := l.Feed("\x41"); !sameFrames(made, []api.Frame{{Type: api.Warm, Warm: 21}}) {
		t.Errorf("line: %v", made)
	}
	holds(t, "line", &l, 2, 0)
	l.Feed("xyz")
	holds(t, "line", &l, 5, 0)
	holds(t, "copy", c, 2, 1)
}

// stream of bytes: frames, spoilt ones, and what looks like their beginnings.
func stream(t *testing.T, d *rand.Rand, frames []api.Frame) string {
	var s strings.Builder
	for range d.Intn(10) {
		b := []byte(written(t, frames[d.Intn(len(frames))]))
		switch d.Intn(8) {
		case 0:
			b[d.Intn(len(b))] ^= 1 << d.Intn(8)
		case 1:
			b = b[:d.Intn(len(b))]
		case 2:
			b = b[d.Intn(len(b)):]
		case 3:
			b = []byte{165, byte(d.Intn(50)), byte(d.Intn(5))}[:1+d.Intn(3)]
		case 4:
			b = []byte(bytesOf(byte(d.Intn(5)), strings.Repeat("\x00", d.Intn(50))))
		}
		s.Write(b)
	}
	return s.String()
}

// standing: the frame at the beginning of s, and how many bytes it has, by another way than the program's.
func standing(s string) (api.Frame, int) {
	for n := 4; n <= min(48, len(s)); n++ {
		body := s[3 : n-1]
		if s[:n] != bytesOf(s[2], body) {
			continue
		}
		f := api.Frame{Type: int(s[2])}
		switch {
		case s[2] == 1 && len(body)%11 == 0:
			for i := 0; i < len(body); i += 11 {
				f.Reads = append(f.Reads, api.Read{Antenna: int(body[i]), Strength: int(body[i+1]), Age: int(body[i+2]), Tag: body[i+3 : i+11]})
				if body[i] > 3 {
					return api.Frame{}, 0
				}
			}
			return f, n
		case s[2] == 2 && body == "":
			return f, n
		case s[2] == 3 && len(body) == 1:
			f.Warm = int(body[0])
			return f, n
		}
	}
	return api.Frame{}, 0
}

// plain: what the chapter says comes of bytes, all at once.
func plain(s string) (made []api.Frame, lost, waits int) {
	for s != "" {
		if f, n := standing(s); n > 0 {
			made = append(made, f)
			s = s[n:]
			continue
		}
		if s == "\xa5" || len(s) > 1 && s[0] == 165 && s[1] <= 44 && len(s) < 4+int(s[1]) {
			return made, lost, len(s)
		}
		lost++
		s = s[1:]
	}
	return made, lost, 0
}

// B3, W1: however bytes are cut, the same comes of them, and it is what the chapter says.
func TestCutsTellNothing(t *testing.T) {
	d := rand.New(rand.NewSource(2))
	frames := good()
	for range 3000 {
		s := stream(t, d, frames)
		want, lost, waits := plain(s)
		for range 4 {
			l := &frame.Line{}
			var made []api.Frame
			for rest := s; rest != ""; {
				n := 1 + d.Intn(min(len(rest), 1+d.Intn(60)))
				made = append(made, l.Feed(rest[:n])...)
				rest = rest[n:]
				if d.Intn(9) == 0 {
					other := l
					l = l.Copy()
					other.Feed(s)
				}
			}
			if !sameFrames(made, want) {
				t.Fatalf("%x: %+v; %+v is wanted", s, made, want)
			}
			holds(t, hex.EncodeToString([]byte(s)), l, lost, waits)
		}
	}
}

// B3: at each cut the line stands as if it had been fed once with all bytes so far.
func TestEachCutByItself(t *testing.T) {
	d := rand.New(rand.NewSource(3))
	frames := good()
	for range 60 {
		s := stream(t, d, frames)
		var l frame.Line
		count := 0
		for i := range len(s) {
			count += len(l.Feed(s[i : i+1]))
			made, lost, waits := plain(s[:i+1])
			if count != len(made) {
				t.Fatalf("%x: %d frames; %d are wanted", s[:i+1], count, len(made))
			}
			holds(t, hex.EncodeToString([]byte(s[:i+1])), &l, lost, waits)
		}
	}
}

// Z2: a frame that is handed in isn't written into, and nothing behind its list is read.
func TestFrameHandedInStays(t *testing.T) {
	behind := reads(4, func(r *api.Read) { r.Tag = "no tag" })
	f := api.Frame{Type: api.Reads, Reads: behind[:2]}
	b := written(t, f)
	if err := frame.Check(f); err != nil || len(b) != 4+2*11 {
		t.Errorf("Bytes(%+v): %x, %v", f, b, err)
	}
	if !reflect.DeepEqual(behind, reads(4, func(r *api.Read) { r.Tag = "no tag" })) {
		t.Errorf("written into: %+v", behind)
	}
}

// Z2: what comes out is the caller's: what he does to it is seen nowhere else.
func TestFramesAreTheCallers(t *testing.T) {
	f := api.Frame{Type: api.Reads, Reads: []api.Read{read(), read()}}
	b := written(t, f)
	var l frame.Line
	made := l.Feed(b + b + b)
	l.Feed(b[:20])
	made[0].Reads = append(made[0].Reads, api.Read{Age: 7})
	made[0].Reads[0], made[0].Reads[1] = api.Read{}, api.Read{}
	made[2] = api.Frame{}
	if !sameFrames(made[1:2], []api.Frame{f}) {
		t.Errorf("lists share memory: %+v", made[1])
	}
	_ = append(made[:0], api.Frame{Type: 9})
	if more := l.Feed(b[20:] + b); !sameFrames(more, []api.Frame{f, f}) {
		t.Errorf("frames hang on what was told ahead: %+v", more)
	}
}

// Z2: neither the line nor its frames are pieces of the bytes that were fed.
func TestFedBytesAreNotKept(t *testing.T) {
	b := []byte(written(t, api.Frame{Type: api.Reads, Reads: []api.Read{read()}}))
	whole := append(append([]byte{}, b...), b[:9]...)
	var l frame.Line
	made := l.Feed(unsafe.String(&whole[0], len(whole)))
	for i := range whole {
		whole[i] = 0
	}
	if len(made) != 1 || made[0].Reads[0] != read() {
		t.Errorf("a frame changed with the bytes that were fed: %+v", made)
	}
	if made = l.Feed(string(b[9:])); len(made) != 1 || made[0].Reads[0] != read() {
		t.Errorf("what waits changed with the bytes that were fed: %+v", made)
	}
}

// Z2: lines know nothing of each other.
func TestLinesApart(t *testing.T) {
	var a, b frame.Line
	a.Feed("x\xa5\x00")
	holds(t, "other line", &b, 0, 0)
	if made := b.Feed("\x02\x58"); len(made) != 0 {
		t.Errorf("a frame out of two lines' bytes: %v", made)
	}
	holds(t, "other line", &b, 2, 0)
	holds(t, "line", &a, 1, 2)
}

// Z1: many bytes, of the worst kinds.
func TestManyBytes(t *testing.T) {
	for _, piece := range []string{"\xa5", "\xa5\x2c", "\xa5\x2c\x01", "x", "\x00", "\xa5\x00\x02\x58", "\xa5\x01\x03"} {
		s := strings.Repeat(piece, 1<<18)
		var l frame.Line
		made := l.Feed(s)
		if 4*len(made)+l.Lost()+l.Waits() != len(s) {
			t.Errorf("%x many times: %d frames, %d lost, %d wait", piece, len(made), l.Lost(), l.Waits())
		}
	}
}

// Z1, B3: no bytes make a line panic, and what comes of them is what the chapter says.
func FuzzLine(f *testing.F) {
	for _, k := range known {
		f.Add(unhex(f, k.hex), 3)
		f.Add("\xa5\x05\x03"+unhex(f, k.hex)+"xyz", 5)
	}
	f.Fuzz(func(t *testing.T, s string, cut int) {
		cut = max(0, min(cut, len(s)))
		want, lost, waits := plain(s)
		var l frame.Line
		if made := fed(&l, s[:cut], s[cut:]); !sameFrames(made, want) {
			t.Errorf("%x: %+v; %+v is wanted", s, made, want)
		}
		holds(t, hex.EncodeToString([]byte(s)), &l, lost, waits)
	})
}
