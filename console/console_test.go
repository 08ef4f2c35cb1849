package console_test

import (
	"fmt"
	"slices"
	"strings"
	"sync"
	"testing"
	"unsafe"

	"cratewatch/api"
	"cratewatch/console"
)

// Tags' texts, and one that would be a tag's but for its Filter.
const (
	item   = "item:1.0.000007.5"
	box    = "case:1.0.000009.1"
	pallet = "pallet:1.0.000001.2"
	noTag  = "item:8.0.000007.5"
)

// document: its session, each line with its answer.
const document = `
set 2 1 2 1 3 2 => ok
at 0 0 0 => ok
at 0 1 1 => ok
at 1 0 2 => ok
rule exit: item 0 then 2 without 1 within 4 => ok
rule walk: any 0 then 1 within 3 => ok
start => ok
read 0 0 9 0 item:1.0.000007.5 => 1
read 0 0 5 0 case:1.0.000009.1 => 1
read 1 1 5 0 case:1.0.000009.1 => 1
tick 3 => 1
where 0 item:1.0.000007.5 => 0
in 0 item:1.0.000007.5 => -
read 0 0 9 0 item:1.0.000007.5 => 1
read 0 0 9 1 case:1.0.000009.1 => 1
tick 2 => 1
in 1 item:1.0.000007.5 => case:1.0.000009.1
read 1 0 7 0 item:1.0.000007.5 => 1
read 0 1 3 0 case:1.0.000009.1 => 1
read 0 1 3 9 case:1.0.000009.1 => 1
tick 2 => 1
where 2 item:1.0.000007.5 => 0
read 1 0 7 0 item:1.0.000007.5 => 1
read 0 1 3 0 case:1.0.000009.1 => 1
tick 2 => 1
where 3 item:1.0.000007.5 => 2
where 3 case:1.0.000009.1 => 1
alerts => exit 3 item:1.0.000007.5, walk 3 case:1.0.000009.1
feed 0 78a50002 => 0
feed 0 58a5010315 => 1
feed 0 41 => 1
warm 0 => 21
drops => 1 0 1 1 0
where 9 item:1.0.000007.5 => error 1
where 0 item:1.0.000007.6 => error 5
in 3 case:1.0.000009.1 => -
tick 1001 => error 1
rule x => error 4
fly => error 4
`

// easy: a watch in which each tick is an epoch, a tag is where it was seen last, and the antennas of reader 0 have the places 0 to 3.
const easy = `
set 1 0 1 1 1 1 => ok
at 0 0 0 => ok
at 0 1 1 => ok
at 0 2 2 => ok
at 0 3 3 => ok
`

const started = easy + "start => ok\n"

// parted: the lines of a session and their answers; rows that are empty, answer and all, only part it for the eye.
func parted(script string) (lines, answers []string) {
	for s := range strings.SplitSeq(script, "\n") {
		if s == "" {
			continue
		}
		line, answer, ok := strings.Cut(s, " => ")
		if !ok {
			panic("no answer: " + s)
		}
		lines, answers = append(lines, line), append(answers, answer)
	}
	return lines, answers
}

func lines(script string) []string {
	l, _ := parted(script)
	return l
}

// says: is each line of a session answered as it has it?
func says(t *testing.T, script string) {
	t.Helper()
	lines, want := parted(script)
	got, err := console.Run(lines)
	if err != nil || len(got) != len(want) {
		t.Fatalf("Run of %d lines: %d answers, %v", len(lines), len(got), err)
	}
	for i := range got {
		if got[i] != want[i] {
			t.Errorf("line %d, %.400q: %.400q; %.400q is wanted", i, lines[i], got[i], want[i])
		}
	}
}

// refuses: are so many lines too many, and nothing is answered?
func refuses(t *testing.T, lines []string) {
	t.Helper()
	if got, err := console.Run(lines); len(got) != 0 || err != api.ErrMany {
		t.Fatalf("Run of %d lines: %d answers, %v", len(lines), len(got), err)
	}
}

// H1, H2: the document's own session.
func TestDocument(t *testing.T) { says(t, document) }

// H1, Z3: MaxLines lines are answered, one more isn't; of none nothing is told.
func TestHowManyLines(t *testing.T) {
	for _, n := range []int{0, 1, 99, 100} {
		l := make([]string, n)
		for i := range l {
			l[i] = "set 0 0 0 0 0 0"
		}
		got, err := console.Run(l)
		if err != nil || len(got) != n {
			t.Fatalf("%d lines: %d answers, %v", n, len(got), err)
		}
		for i, a := range got {
			if a != "ok" {
				t.Fatalf("line %d of %d: %q", i, n, a)
			}
		}
	}
	for _, n := range []int{101, 102, 200, 1000, 100000} {
		refuses(t, make([]string, n))
	}
	if got, err := console.Run(nil); len(got) != 0 || err != nil {
		t.Fatalf("no lines: %q, %v", got, err)
	}
}

// H1: at first everything of the config is 0, so there is no watch of it, and each of the six numbers is needed.
func TestConfigAtFirst(t *testing.T) {
	says(t, "start => error 1\ndrops => error 5\nset 1 0 1 1 1 1 => ok\nstart => ok\ndrops => 0 0 0 0 0")
	for _, s := range []string{"0 0 1 1 1 1", "1 0 0 1 1 1", "1 0 1 0 1 1", "1 0 1 1 0 1", "1 0 1 1 1 0", "1 -1 1 1 1 1", "51 0 1 1 1 1", "1 51 1 1 1 1", "1 0 9 1 1 1", "1 0 8 9 1 1", "1 0 1 1 9 1", "1 0 1 1 8 9", "99999 0 1 1 1 1", "-1 -1 -1 -1 -1 -1"} {
		says(t, "set "+s+" => ok\nstart => error 1\nalerts => error 5")
	}
	for _, s := range []string{"50 50 8 8 8 8", "1 0 1 1 1 1", "50 0 8 1 1 1", "1 50 1 1 8 8"} {
		says(t, "set "+s+" => ok\nstart => ok\nalerts => -")
	}
}

// H1: at first no antenna of any reader has a place.
func TestPlacesAtFirst(t *testing.T) {
	var b strings.Builder
	b.WriteString("set 1 0 1 1 1 1 => ok\nstart => ok\n")
	n := 0
	for reader := range api.MaxReaders {
		for antenna := range api.Antennas {
			n++
			fmt.Fprintf(&b, "read %d %d 0 0 %s => 1\ndrops => 0 0 %d 0 0\n", reader, antenna, item, n)
		}
	}
	says(t, b.String())
}

// H1: each number of a set tells what it is there for.
func TestSet(t *testing.T) {
	// LEN, LATE: epochs of three ticks are closed two ticks behind their ends.
	says(t, "set 3 2 1 1 1 1 => ok\nstart => ok\ntick 4 => 0\ntick 1 => 1\ntick 2 => 0\ntick 1 => 1")
	// WINDOW, NEED: to be there it must be seen in two of three epochs.
	says(t, easy+`
set 1 0 3 2 1 1 => ok
start => ok
read 0 1 0 0 item:1.0.000007.5 => 1
tick 1 => 1
where 0 item:1.0.000007.5 => -
tick 1 => 1
read 0 1 0 0 item:1.0.000007.5 => 1
tick 1 => 1
where 2 item:1.0.000007.5 => 1
tick 1 => 1
where 3 item:1.0.000007.5 => -
`)
	// SPAN, SCORE: to be in it, it must be together with it in two of three epochs.
	together := "read 0 1 0 0 item:1.0.000007.5 => 1\nread 0 1 0 0 case:1.0.000009.1 => 1\ntick 1 => 1\n"
	says(t, easy+"set 1 0 1 1 3 2 => ok\nstart => ok\n"+together+`
in 0 item:1.0.000007.5 => -
tick 1 => 1
`+together+`
in 2 item:1.0.000007.5 => case:1.0.000009.1
tick 1 => 1
in 3 item:1.0.000007.5 => -
`)
}

// H1: an at tells of one antenna, the last one counts, and a start takes it.
func TestAt(t *testing.T) {
	for reader := range api.MaxReaders {
		for antenna := range api.Antennas {
			place := (reader*3 + antenna*5 + 1) % api.Places
			says(t, fmt.Sprintf(`
set 1 0 1 1 1 1 => ok
at %[1]d %[2]d %[3]d => ok
start => ok
read %[1]d %[2]d 0 0 item:1.0.000007.5 => 1
read %[1]d %[4]d 0 0 item:1.0.000007.5 => 1
read %[5]d %[2]d 0 0 item:1.0.000007.5 => 1
tick 1 => 1
where 0 item:1.0.000007.5 => %[3]d
drops => 0 0 2 0 0
at %[1]d %[2]d 7 => ok
at %[1]d %[2]d -1 => ok
start => ok
read %[1]d %[2]d 0 0 item:1.0.000007.5 => 1
drops => 0 0 1 0 0
`, reader, antenna, place, (antenna+1)%4, (reader+1)%4))
		}
	}
}

// H1: a reader or an antenna that there isn't is told at once; a place that there isn't by start; what was refused changes nothing.
func TestWrongAt(t *testing.T) {
	for _, n := range []string{"-1", "4", "5", "8", "256", "65536", "99999"} {
		says(t, started+strings.ReplaceAll(`
at N 0 5 => error 1
at 0 N 5 => error 1
at N N N => error 1
start => ok
read 0 0 0 0 item:1.0.000007.5 => 1
read 0 3 0 0 case:1.0.000009.1 => 1
tick 1 => 1
where 0 item:1.0.000007.5 => 0
where 0 case:1.0.000009.1 => 3
`, "N", n))
	}
	for _, n := range []string{"8", "9", "256", "99999"} {
		says(t, easy+"at 3 3 "+n+" => ok\nstart => error 1\ndrops => error 5\nat 3 3 7 => ok\nstart => ok\ndrops => 0 0 0 0 0")
	}
}

// H1: rules are kept in their order; too many, or two of a Name, are told by each start from then on.
func TestRule(t *testing.T) {
	six := ""
	for _, name := range []string{"a", "b", "c", "d", "e", "abcdefghijkl"} {
		six += "rule " + name + ": any 0 then 1 within 1 => ok\n"
	}
	says(t, easy+six+`
start => ok
read 0 0 0 0 item:1.0.000007.5 => 1
tick 1 => 1
read 0 1 0 0 item:1.0.000007.5 => 1
tick 1 => 1
alerts => a 1 item:1.0.000007.5, b 1 item:1.0.000007.5, c 1 item:1.0.000007.5, d 1 item:1.0.000007.5, e 1 item:1.0.000007.5, abcdefghijkl 1 item:1.0.000007.5
rule g: any 0 then 1 within 1 => ok
start => error 2
drops => 0 0 0 0 0
rule a: any 0 then 1 within 1 => ok
start => error 2
`)
	says(t, easy+"rule a: any 0 then 1 within 1 => ok\nrule a: item 2 then 3 within 9 => ok\nstart => error 7\ndrops => error 5\nstart => error 7")
}

// H1, H2: a text that is no rule's is told at once, and no rule is kept.
func TestWrongRule(t *testing.T) {
	wrong := ""
	for _, s := range []string{"rule", "rule ", "rule  a: any 0 then 1 within 1", "rule a: any 0 then 1 within 1 ", "rule a: any 0 then 0 within 1", "rule a: any 0 then 8 within 1", "rule a any 0 then 1 within 1", "rule A: any 0 then 1 within 1", "rule a: any 0 then 1", "rule a: any 0 then 1 within 51", "rule a: any 00 then 1 within 1", "rule abcdefghijklm: any 0 then 1 within 1", "rules a: any 0 then 1 within 1", "rule\ta: any 0 then 1 within 1", " rule a: any 0 then 1 within 1", "Rule a: any 0 then 1 within 1"} {
		wrong += s + " => error 4\n"
	}
	says(t, wrong+started+wrong+`
start => ok
read 0 0 0 0 item:1.0.000007.5 => 1
tick 1 => 1
read 0 1 0 0 item:1.0.000007.5 => 1
tick 1 => 1
alerts => -
`)
}

// H1: a start makes a watch that has nothing of the one ahead.
func TestStartAfresh(t *testing.T) {
	says(t, easy+`
rule a: any 0 then 1 within 3 => ok
start => ok
feed 0 78a501031541a5 => 1
read 0 0 0 0 item:1.0.000007.5 => 1
tick 1 => 1
read 0 1 0 0 item:1.0.000007.5 => 1
tick 1 => 1
alerts => a 1 item:1.0.000007.5
warm 0 => 21
drops => 2 0 0 0 0
feed 0 a5 => 0
start => ok
alerts => -
warm 0 => -1
drops => 0 0 0 0 0
where 0 item:1.0.000007.5 => error 1
feed 0 000258 => 0
drops => 3 0 0 0 0
tick 1000 => 1000
where 0 item:1.0.000007.5 => error 5
tick 1 => error 1
start => ok
tick 1 => 1
`)
}

// H1: what is set, the places and the rules behind a start count from the next one on, and rules stand behind those ahead.
func TestBehindStart(t *testing.T) {
	walk := "read 0 0 0 0 item:1.0.000007.5 => 1\ntick 1 => 1\nread 0 1 0 0 item:1.0.000007.5 => 1\ntick 1 => 1\n"
	says(t, easy+"rule b: any 0 then 1 within 3 => ok\nstart => ok\n"+`
rule a: any 0 then 1 within 3 => ok
at 0 1 5 => ok
set 2 0 1 1 1 1 => ok
`+walk+`
where 1 item:1.0.000007.5 => 1
alerts => b 1 item:1.0.000007.5
at 0 1 1 => ok
set 1 0 1 1 1 1 => ok
start => ok
`+walk+`
alerts => b 1 item:1.0.000007.5, a 1 item:1.0.000007.5
at 0 1 5 => ok
set 2 0 1 1 1 1 => ok
start => ok
tick 1 => 0
read 0 1 0 0 item:1.0.000007.5 => 1
tick 1 => 1
where 0 item:1.0.000007.5 => 5
`)
}

// H1, Z1: a start that is refused leaves the watch as it is, and the config and the rules as they are told.
func TestRefusedStart(t *testing.T) {
	says(t, started+`
read 0 0 0 0 item:1.0.000007.5 => 1
set 0 0 1 1 1 1 => ok
start => error 1
tick 1 => 1
where 0 item:1.0.000007.5 => 0
set 2 0 1 1 1 1 => ok
tick 1 => 1
start => ok
tick 1 => 0
rule a: any 0 then 1 within 3 => ok
rule a: any 0 then 1 within 3 => ok
start => error 7
alerts => -
tick 1 => 1
`)
}

// asking: one line of each kind that asks a watch.
var asking = []string{"feed 0 a5", "read 0 0 0 0 " + item, "tick 1", "where 0 " + item, "in 0 " + item, "warm 0", "alerts", "drops"}

// H1: ahead of the first start there is none to be asked, whatever is wrong with the text; but a line that is none of these is none.
func TestAheadOfStart(t *testing.T) {
	none := []string{"feed 0 ", "feed 0 XY", "feed 0 0", "feed 9 zz", "feed -1 é", "feed 99999 a5", "feed 0 " + strings.Repeat("z", 293),
		"read 0 0 0 0 " + noTag, "read 9 9 999 999 x", "read 0 0 0 0 ", "tick 99999", "tick -1", "where 0 " + noTag, "where -1 ", "in 0 " + noTag, "in 99999 x", "warm 4", "warm -1"}
	text := []string{"feed", "feed 0", "feed 01 a5", "feed x a5", "feed 0 a5 a5", "feed 0 zz ", "feed  a5", "feed 0 " + strings.Repeat("a", 294),
		"read 0 0 0 " + item, "read 0 0 0 0 " + item + " ", "read 0 0 0 00 " + item, "tick", "tick 01", "tick 123456", "tick 1 1", "where 0", "where 0 a b", "where -2 " + item, "in 0", "in 0 a b", "in 00 " + item, "warm", "warm x", "warm 0 ", "alerts ", "drops 1", " drops", "", " ", "fly", "start ", "Start"}
	script := ""
	for _, s := range slices.Concat(asking, none) {
		script += s + " => error 5\n"
	}
	for _, s := range text {
		script += s + " => error 4\n"
	}
	says(t, script)
	// A start that is refused is none.
	says(t, "start => error 1\n"+script+"start => error 1\ntick 1 => error 5\nset 1 0 1 1 1 1 => ok\ntick 1 => error 5\nstart => ok\ntick 1 => 1")
}

// H1, H2: in each place of a number everything else makes the line none; of the numbers of five digits, and -1, the lines are read.
func TestNumbers(t *testing.T) {
	wrong := []string{"", "00", "01", "-0", "-01", "+0", "+1", "-2", "-10", "--1", "-", "100000", "123456", "000001", "1000000000000000000000", "9223372036854775808", "18446744073709551616", "1_0", "1.", ".1", "1.0", "1e1", "0x1", "0b1", "1\t", "\t1", "1\n", "1\x00", "a", "٣", "\xff", "x", "−1", "1,"}
	good := []string{"0", "-1", "1", "9", "10", "99", "100", "999", "1000", "9999", "10000", "99999"}
	for _, s := range []string{"set N 1 1 1 1 1", "set 1 N 1 1 1 1", "set 1 1 N 1 1 1", "set 1 1 1 N 1 1", "set 1 1 1 1 N 1", "set 1 1 1 1 1 N", "at N 0 0", "at 0 N 0", "at 0 0 N",
		"feed N a5", "read N 0 0 0 " + item, "read 0 N 0 0 " + item, "read 0 0 N 0 " + item, "read 0 0 0 N " + item, "tick N", "where N " + item, "in N " + item, "warm N"} {
		script := started
		for _, n := range wrong {
			if !strings.Contains(n, "\n") {
				script += strings.Replace(s, "N", n, 1) + " => error 4\n"
			}
		}
		says(t, script)
		l := lines(started)
		for _, n := range slices.Concat(wrong, good) {
			l = append(l, strings.Replace(s, "N", n, 1))
		}
		answers := agree(t, l)
		for i, a := range answers {
			read := i < len(answers)-len(good)-len(wrong) || i >= len(answers)-len(good)
			if read == (a == "error 4") {
				t.Errorf("%q: %q", l[i], a)
			}
		}
	}
}

// H1, H2: words are as many as they should be, with one blank between, and no letter is another one.
func TestWords(t *testing.T) {
	good := append([]string{"set 1 0 1 1 1 1", "at 0 0 0", "rule a: any 0 then 1 within 1", "start"}, asking...)
	for _, s := range good {
		l := lines(started)
		add := func(line string) {
			l = append(l, line)
		}
		words := strings.Split(s, " ")
		for i := range words {
			add(strings.Join(slices.Delete(slices.Clone(words), i, i+1), " "))
			add(strings.Join(slices.Insert(slices.Clone(words), i, ""), " "))
			if i > 0 {
				add(strings.Join(words[:i], " ") + "\t" + strings.Join(words[i:], " "))
				add(strings.Join(words[:i], " ") + strings.Join(words[i:], " "))
			}
		}
		for _, more := range []string{" ", "  ", " 1", " x", "\t", "\n", "\r", "\x00", ".", " => ok"} {
			add(s + more)
		}
		add(strings.ToUpper(s))
		add(strings.ToUpper(s[:1]) + s[1:])
		add("x" + s)
		for i, a := range agree(t, l) {
			if i >= len(lines(started)) && a != "error 4" {
				t.Errorf("%q: %q", l[i], a)
			}
		}
	}
	// Nor does a line that is refused change a thing.
	says(t, started+"set 2 0 1 1 1 => error 4\nset 2 0 1 1 1 1 1 => error 4\nset 2 0 1 1 1 x => error 4\nat 0 0 => error 4\nat 0 0 5 x => error 4\nstart x => error 4\nstart => ok\nread 0 0 0 0 "+item+" => 1\ntick 1 => 1\nwhere 0 "+item+" => 0")
}

// H2: MaxLine bytes are a line still, one more isn't, whatever it begins with.
func TestLongLines(t *testing.T) {
	long := func(s string, n int) string { return s + strings.Repeat("0", n-len(s)) }
	// Behind a reader of one digit an odd number of them is left in 300 bytes, behind one of two an even one.
	says(t, started+long("feed 0 ", 299)+" => 0\n"+long("feed 0 ", 301)+" => error 4\n"+long("feed 10 ", 300)+" => error 1\n"+long("feed 10 ", 302)+" => error 4\ndrops => 146 0 0 0 0")
	for _, s := range []string{"x", "rule ", "feed 0 ", "start ", ""} {
		for _, n := range []int{301, 302, 1000, 1 << 20} {
			says(t, long(s, n)+" => error 4\n"+started+long(s, n)+" => error 4\ndrops => 0 0 0 0 0")
		}
	}
}

// H1: feed tells how many frames its bytes made, however they are cut; all bytes can be told.
func TestFeed(t *testing.T) {
	says(t, started+`
feed 0  => 0
feed 0 a5000258a5000258 => 2
feed 0 a5 => 0
feed 0 00 => 0
feed 1 0258 => 0
feed 0  => 0
feed 0 0258 => 1
feed 3 a501030056a50103ff57 => 2
warm 3 => 255
drops => 2 0 0 0 0
feed 4 a5 => error 1
feed -1 a5 => error 1
feed 99999  => error 1
feed 9  => error 1
drops => 2 0 0 0 0
`)
	l := lines(started)
	var all strings.Builder
	for b := range 256 {
		fmt.Fprintf(&all, "%02x", b)
		if b%128 == 127 {
			l = append(l, "feed 0 "+all.String(), "drops")
			all.Reset()
		}
	}
	agree(t, l)
	// Each byte is told once, as how warm it is.
	for b := 0; b < 256; b += 32 {
		script := started
		for n := b; n < b+32; n++ {
			script += fmt.Sprintf("feed 0 a50103%02x%02x => 1\nwarm 0 => %d\n", n, byte(255-165-1-3-n), n)
		}
		says(t, script)
	}
}

// H1, H2: what isn't two digits a byte makes the line none, ahead of Feed's error, and feeds nothing.
func TestWrongDigits(t *testing.T) {
	script := started
	for _, x := range []string{"0", "a50", "A5", "a5A5", "aF", "g0", "0g", "zz", "0x", "0xa5", "-1", "+1", "a5-1", "..", "é", "\xff\xff", "\x00\x00", "a5\t\t", "/0", "0/", ":0", "0:", "`0", "0`", "@0"} {
		script += "feed 0 " + x + " => error 4\nfeed 9 " + x + " => error 4\n"
	}
	says(t, script+"drops => 0 0 0 0 0")
}

// H1: read is a frame of one read: each number is what it is there for, and the errors are Of's, then the frame's and Feed's.
func TestRead(t *testing.T) {
	says(t, `
set 2 1 1 1 1 1 => ok
at 0 0 0 => ok
at 0 1 1 => ok
at 1 0 2 => ok
at 3 3 7 => ok
start => ok
read 0 0 3 0 item:1.0.000007.5 => 1
read 0 1 4 0 item:1.0.000007.5 => 1
read 1 0 9 0 case:1.0.000009.1 => 1
read 3 3 255 0 pallet:1.0.000001.2 => 1
read 3 3 0 1 pallet:1.0.000001.2 => 1
tick 3 => 1
where 0 item:1.0.000007.5 => 1
where 0 case:1.0.000009.1 => 2
where 0 pallet:1.0.000001.2 => 7
read 0 0 0 1 item:1.0.000007.5 => 1
read 0 1 9 2 item:1.0.000007.5 => 1
read 0 1 9 255 item:1.0.000007.5 => 1
tick 2 => 1
where 1 item:1.0.000007.5 => 0
drops => 0 0 0 3 0
`)
	script := started
	for _, s := range []string{"-1 0 0 0", "4 0 0 0", "99999 0 0 0", "0 -1 0 0", "0 4 0 0", "0 99999 0 0", "0 0 -1 0", "0 0 256 0", "0 0 0 -1", "0 0 0 256", "0 0 0 99999"} {
		script += "read " + s + " " + item + " => error 1\nread " + s + " " + noTag + " => error 4\n"
	}
	for _, s := range []string{"", "item", "item:", "Item:1.0.000007.5", "item:1.0.000007.05", "item:1.0.000007.16777216", "item:1.0.00007.5", "item:1.0.000007.5\t", "crate:1.0.000007.5", "312c07000c000005"} {
		script += "read 0 0 0 0 " + s + " => error 4\n"
	}
	says(t, script+"drops => 0 0 0 0 0\nread 0 0 0 0 "+item+" => 1")
}

// H1: read is fed as bytes are: behind those that wait.
func TestReadBehindBytes(t *testing.T) {
	says(t, started+"feed 0 a5 => 0\nread 0 0 0 0 "+item+" => 1\ndrops => 1 0 0 0 0\nfeed 0 a52c01 => 0\nread 1 0 0 0 "+item+" => 1\nread 0 0 0 0 "+item+" => 0\nread 0 0 0 0 "+item+" => 0\nread 0 0 0 0 "+item+" => 3\ndrops => 4 0 1 0 0")
}

// H1: tick tells how many epochs are closed, and Tick's error.
func TestTick(t *testing.T) {
	says(t, `
set 10 5 1 1 1 1 => ok
start => ok
tick 0 => 0
tick 14 => 0
tick 1 => 1
tick -1 => error 1
tick 986 => error 1
tick 99999 => error 1
tick 985 => 98
tick 1 => error 1
tick 0 => 0
`)
}

// H1: where tells the place, - if it is nowhere; Of's error is told ahead of an epoch's, that ahead of a tag's that was never told.
func TestWhere(t *testing.T) {
	says(t, started+`
read 0 3 0 0 item:1.0.000007.5 => 1
where 0 item:1.0.000007.5 => error 1
tick 2 => 2
where 0 item:1.0.000007.5 => 3
where 1 item:1.0.000007.5 => -
where 2 item:1.0.000007.5 => error 1
where -1 item:1.0.000007.5 => error 1
where 99999 item:1.0.000007.5 => error 1
where 2 case:1.0.000009.1 => error 1
where 1 case:1.0.000009.1 => error 5
where 2 item:8.0.000007.5 => error 4
where 1 item:8.0.000007.5 => error 4
where 1  => error 4
where 0 item:1.0.000007.6 => error 5
`)
}

// H1: in tells the parent's text, - if there is none, and the errors that where tells.
func TestIn(t *testing.T) {
	says(t, started+`
read 0 3 0 0 item:1.0.000007.5 => 1
read 0 3 0 0 case:1.0.000009.1 => 1
read 0 2 0 0 pallet:1.0.000001.2 => 1
in 0 item:1.0.000007.5 => error 1
tick 1 => 1
read 0 3 0 0 case:1.0.000009.1 => 1
read 0 3 0 0 pallet:1.0.000001.2 => 1
tick 1 => 1
in 0 item:1.0.000007.5 => case:1.0.000009.1
in 0 case:1.0.000009.1 => -
in 0 pallet:1.0.000001.2 => -
in 1 item:1.0.000007.5 => -
in 1 case:1.0.000009.1 => pallet:1.0.000001.2
in 2 item:1.0.000007.5 => error 1
in -1 item:1.0.000007.5 => error 1
in 99999 item:1.0.000007.5 => error 1
in 2 item:1.0.000007.6 => error 1
in 1 item:1.0.000007.6 => error 5
in 2 item:8.0.000007.5 => error 4
in 0 item:8.0.000007.5 => error 4
in 0  => error 4
`)
}

// H1: the tags' texts are those that were read, of every Kind and Part.
func TestTagTexts(t *testing.T) {
	for _, s := range []string{"0.000000.0.0", "7.999999.9.16777215", "1.00000.00.1", "2.9999.999.2", "3.007.0012.5", "4.10.00100.1000", "5.9.999999.9", "6.0.000000.16777215"} {
		says(t, easy+strings.ReplaceAll(`
rule a: case 0 then 1 within 1 => ok
start => ok
read 0 0 0 0 item:T => 1
read 0 0 0 0 case:T => 1
tick 1 => 1
in 0 item:T => case:T
in 0 case:T => -
read 0 1 0 0 item:T => 1
read 0 1 0 0 case:T => 1
read 0 1 0 0 pallet:T => 1
tick 1 => 1
where 1 pallet:T => 1
in 1 case:T => pallet:T
alerts => a 1 case:T
`, "T", s))
	}
}

// H1: warm tells the last number of each reader; below 0 if there is none.
func TestWarm(t *testing.T) {
	says(t, started+`
warm 0 => -1
warm 3 => -1
feed 0 a501031541 => 1
feed 3 a501030056 => 1
warm 0 => 21
warm 1 => -1
warm 2 => -1
warm 3 => 0
feed 0 a50103ff57 => 1
warm 0 => 255
warm -1 => error 1
warm 4 => error 1
warm 99999 => error 1
`)
}

// H1: alerts are told by epochs, then rules, then tags, by the rules' names, and stay.
func TestAlerts(t *testing.T) {
	says(t, easy+`
rule zig: any 0 then 1 within 2 => ok
rule all: item 1 then 0 within 2 => ok
start => ok
alerts => -
read 0 0 0 0 pallet:1.0.000001.2 => 1
read 0 0 0 0 item:1.0.000007.5 => 1
tick 1 => 1
alerts => -
read 0 1 0 0 pallet:1.0.000001.2 => 1
read 0 1 0 0 item:1.0.000007.5 => 1
tick 1 => 1
alerts => zig 1 item:1.0.000007.5, zig 1 pallet:1.0.000001.2
read 0 0 0 0 pallet:1.0.000001.2 => 1
read 0 0 0 0 item:1.0.000007.5 => 1
tick 1 => 1
read 0 1 0 0 pallet:1.0.000001.2 => 1
tick 1 => 1
rule last: any 0 then 1 within 2 => ok
alerts => zig 1 item:1.0.000007.5, zig 1 pallet:1.0.000001.2, all 2 item:1.0.000007.5, zig 3 pallet:1.0.000001.2
tick 20 => 20
alerts => zig 1 item:1.0.000007.5, zig 1 pallet:1.0.000001.2, all 2 item:1.0.000007.5, zig 3 pallet:1.0.000001.2
`)
}

// H1: drops are told in their order: Bytes, Bad, Nowhere, Late, Full.
func TestDrops(t *testing.T) {
	script := started + "drops => 0 0 0 0 0\nfeed 0 78787878 => 0\nfeed 1 78 => 0\ndrops => 5 0 0 0 0\n"
	// A frame of one read whose tag's first byte is no Kind's.
	bad := "feed 0 a50b01" + strings.Repeat("00", 11) + "4e => 1\n"
	script += bad + bad + "drops => 5 2 0 0 0\n"
	for range 3 {
		script += "read 1 0 0 0 " + item + " => 1\n"
	}
	script += "drops => 5 2 3 0 0\n"
	for n := range api.MaxTags {
		script += fmt.Sprintf("read 0 0 0 0 item:0.0.000000.%d => 1\n", n)
	}
	script += "tick 1 => 1\n"
	for range 4 {
		script += "read 0 0 0 1 item:0.0.000000.3 => 1\n"
	}
	script += "drops => 5 2 3 4 0\nread 0 0 0 0 " + item + " => 1\ndrops => 5 2 3 4 1\n"
	says(t, script)
}

// Z2: a session tells nothing to another one, whether they run one behind the other or at the same time.
func TestSessionsApart(t *testing.T) {
	says(t, document)
	says(t, "start => error 1\ndrops => error 5\nalerts => error 5")
	says(t, started+"alerts => -\nwarm 0 => -1\ndrops => 0 0 0 0 0")
	want, _ := console.Run(lines(document))
	var wait sync.WaitGroup
	for range 8 {
		wait.Go(func() {
			for range 20 {
				if got, err := console.Run(lines(document)); err != nil || !slices.Equal(got, want) {
					t.Errorf("%q, %v", got, err)
				}
			}
		})
	}
	wait.Wait()
}

// Z2: the lines are left as they are, what stands behind them isn't read, and the answers stay when the lines' memory is written over.
func TestMemory(t *testing.T) {
	given, want := parted(document)
	var bytes [][]byte
	list := make([]string, 0, api.MaxLines)
	for _, s := range given {
		b := []byte(s)
		bytes = append(bytes, b)
		list = append(list, unsafe.String(unsafe.SliceData(b), len(b)))
	}
	behind := list[:cap(list)]
	for i := len(list); i < len(behind); i++ {
		behind[i] = "start"
	}
	got, err := console.Run(list)
	if err != nil || !slices.Equal(got, want) {
		t.Fatalf("%q, %v", got, err)
	}
	if !slices.Equal(list, given) {
		t.Fatal("the lines are changed")
	}
	for i := len(list); i < len(behind); i++ {
		if behind[i] != "start" {
			t.Fatal("what stands behind the lines is written over")
		}
	}
	for _, b := range bytes {
		for i := range b {
			b[i] = '?'
		}
	}
	if !slices.Equal(got, want) {
		t.Fatalf("an answer shares a line's memory: %q", got)
	}
	again, _ := console.Run(given)
	got[0], got[len(got)-1] = "x", "y"
	if !slices.Equal(again, want) {
		t.Fatal("two sessions' answers share memory")
	}
}

// Z1: the longest session that there is ends, and its answers are whole.
func TestLongSession(t *testing.T) {
	l := lines(easy)
	for _, name := range []string{"a", "b", "c"} {
		l = append(l, "rule "+name+": any 0 then 1 within 50", "rule "+name+"x: any 1 then 0 within 50")
	}
	l = append(l, "start")
	for n := range 12 {
		l = append(l, fmt.Sprintf("read 0 0 0 0 item:0.0.000000.%d", n))
	}
	l = append(l, "tick 1")
	for i := 1; len(l)+14 <= api.MaxLines; i++ {
		for n := range 12 {
			l = append(l, fmt.Sprintf("read 0 %d 0 0 item:0.0.000000.%d", i%2, n))
		}
		l = append(l, "tick 1")
	}
	l = append(l, "alerts", "tick 900")
	got := agree(t, l)
	if n := strings.Count(got[len(got)-2], ", ") + 1; n < 100 {
		t.Errorf("%d alerts", n)
	}
}
