package console_test

import (
	"encoding/hex"
	"fmt"
	"math/rand"
	"regexp"
	"strconv"
	"strings"
	"testing"

	"cratewatch/api"
	"cratewatch/console"
	"cratewatch/frame"
	"cratewatch/rule"
	"cratewatch/tag"
	"cratewatch/watch"
)

// forms of lines, by their first words: N stands for a number, W for a word, which may be empty.
var forms = map[string]*regexp.Regexp{
	"set":    form("set N N N N N N"),
	"at":     form("at N N N"),
	"rule":   regexp.MustCompile(`(?s)\Arule (.*)\z`),
	"start":  form("start"),
	"feed":   form("feed N W"),
	"read":   form("read N N N N W"),
	"tick":   form("tick N"),
	"where":  form("where N W"),
	"in":     form("in N W"),
	"warm":   form("warm N"),
	"alerts": form("alerts"),
	"drops":  form("drops"),
}

func form(s string) *regexp.Regexp {
	s = strings.ReplaceAll(s, "N", `(-1|0|[1-9][0-9]{0,4})`)
	return regexp.MustCompile(`\A` + strings.ReplaceAll(s, "W", `([^ ]*)`) + `\z`)
}

var hexForm = regexp.MustCompile(`\A(?:[0-9a-f][0-9a-f])*\z`)

// plain: a session by another way: each line's form is a pattern, and what comes of it is asked of the other layers.
type plain struct {
	config api.Config
	rules  []api.Rule
	named  []string // the names of the watch's own rules
	watch  *watch.Watch
}

func newPlain() *plain {
	p := &plain{}
	p.config.Where = [4][4]int{{-1, -1, -1, -1}, {-1, -1, -1, -1}, {-1, -1, -1, -1}, {-1, -1, -1, -1}}
	return p
}

// told: a number, or an error.
func told(n int, err error) string {
	if err != nil {
		return wrong(err)
	}
	return strconv.Itoa(n)
}

func wrong(err error) string {
	for n, e := range []api.Errno{api.OK, api.ErrBound, api.ErrMany, api.ErrShape, api.ErrText, api.ErrNone, api.ErrLate, api.ErrExist} {
		if n > 0 && err == e {
			return fmt.Sprint("error ", n)
		}
	}
	panic(err)
}

// answer of a line.
func (p *plain) answer(line string) string {
	if len(line) > 300 {
		return "error 4"
	}
	for name, f := range forms {
		if parts := f.FindStringSubmatch(line); parts != nil {
			return p.obey(name, parts[1:])
		}
	}
	return "error 4"
}

func (p *plain) obey(name string, parts []string) string {
	var n [6]int
	for i, s := range parts {
		n[i%6], _ = strconv.Atoi(s)
	}
	switch name {
	case "set":
		where := p.config.Where
		p.config = api.Config{Len: n[0], Late: n[1], Window: n[2], Need: n[3], Span: n[4], Score: n[5], Where: where}
		return "ok"
	case "at":
		if n[0] < 0 || n[0] > 3 || n[1] < 0 || n[1] > 3 {
			return "error 1"
		}
		p.config.Where[n[0]][n[1]] = n[2]
		return "ok"
	case "rule":
		r, err := rule.Parse(parts[0])
		if err != nil {
			return wrong(err)
		}
		p.rules = append(p.rules, r)
		return "ok"
	case "start":
		return p.start()
	}
	if p.watch == nil {
		return "error 5"
	}
	last := ""
	if len(parts) > 0 {
		last = parts[len(parts)-1]
	}
	return p.ask(name, n, last)
}

func (p *plain) start() string {
	w, err := watch.New(p.config, p.rules)
	if err != nil {
		return wrong(err)
	}
	p.watch, p.named = w, nil
	for _, r := range p.rules {
		p.named = append(p.named, r.Name)
	}
	return "ok"
}

func (p *plain) ask(name string, n [6]int, last string) string {
	switch name {
	case "feed":
		b, err := hex.DecodeString(last)
		if err != nil || !hexForm.MatchString(last) {
			return "error 4"
		}
		return told(p.watch.Feed(n[0], string(b)))
	case "tick":
		return told(p.watch.Tick(n[0]))
	case "warm":
		return told(p.watch.Warm(n[0]))
	case "drops":
		return strings.Trim(fmt.Sprint(p.watch.Drops()), "{}")
	case "alerts":
		var l []string
		for _, a := range p.watch.Alerts() {
			l = append(l, fmt.Sprint(p.named[a.Rule], " ", a.Epoch, " ", textOf(a.Tag)))
		}
		if l == nil {
			return "-"
		}
		return strings.Join(l, ", ")
	}
	t, err := tag.Of(last)
	if err != nil {
		return wrong(err)
	}
	b, _ := tag.Bytes(t)
	return p.askOf(name, n, b)
}

// askOf a tag's bytes.
func (p *plain) askOf(name string, n [6]int, b string) string {
	switch name {
	case "read":
		s, err := frame.Bytes(api.Frame{Type: api.Reads, Reads: []api.Read{{Antenna: n[1], Strength: n[2], Age: n[3], Tag: b}}})
		if err != nil {
			return wrong(err)
		}
		return told(p.watch.Feed(n[0], s))
	case "where":
		place, err := p.watch.Where(b, n[0])
		if place == -1 && err == nil {
			return "-"
		}
		return told(place, err)
	default:
		parent, err := p.watch.Parent(b, n[0])
		switch {
		case err != nil:
			return wrong(err)
		case parent == "":
			return "-"
		}
		return textOf(parent)
	}
}

func textOf(b string) string {
	t, err := tag.Parse(b)
	if err != nil {
		panic(err)
	}
	s, err := tag.Text(t)
	if err != nil {
		panic(err)
	}
	return s
}

// agree: does Run answer these lines as plain does?
func agree(t *testing.T, lines []string) (answers []string) {
	t.Helper()
	answers, err := console.Run(lines)
	if err != nil || len(answers) != len(lines) {
		t.Fatalf("Run of %d lines: %d answers, %v", len(lines), len(answers), err)
	}
	p := newPlain()
	for i, line := range lines {
		if want := p.answer(line); answers[i] != want {
			t.Fatalf("%.2000q: line %d, %.400q: %.400q; %.400q is wanted", lines[:i], i, line, answers[i], want)
		}
	}
	return answers
}

// drawer of lines.
type drawer struct{ *rand.Rand }

func (d drawer) of(l ...string) string { return l[d.Intn(len(l))] }

// number: mostly below most; now and then at an edge, or none at all.
func (d drawer) number(most int) string {
	switch d.Intn(60) {
	case 0:
		return d.of("-1", "99999", "1000", "255", "256", "4", "8")
	case 1:
		return d.of("", "01", "-0", "+1", "-2", "100000", "x", "1.", "00")
	}
	return strconv.Itoa(d.Intn(most))
}

func (d drawer) tag() string {
	if d.Intn(60) == 0 {
		return d.of("", "item", "item:0.0.000000.-1", "item:0.0.000000.01", "crate:0.0.000000.1", "item:8.0.000000.1")
	}
	return d.of("item", "item", "case", "pallet") + ":0.0.000000." + strconv.Itoa(d.Intn(4))
}

func (d drawer) rule() string {
	s := d.of("a", "b", "c", "d", "e", "f", "g", "toolongforanyname") + ": " + d.of("any", "item", "case", "pallet", "any", "none")
	s += " " + strconv.Itoa(d.Intn(4)) + " then " + strconv.Itoa(d.Intn(4))
	if d.Intn(3) == 0 {
		s += " without " + strconv.Itoa(d.Intn(4))
	}
	return "rule " + s + " within " + strconv.Itoa(d.Intn(9))
}

func (d drawer) set() string {
	w, span := 1+d.Intn(4), 1+d.Intn(4)
	return fmt.Sprint("set ", 1+d.Intn(3), " ", d.Intn(3), " ", w, " ", 1+d.Intn(w), " ", span, " ", 1+d.Intn(span))
}

// hex: frames, pieces of them, and other bytes.
func (d drawer) hex() string {
	if d.Intn(20) == 0 {
		return d.of("", "0", "A5", "zz", "a5 00", "a5\x00", "é0")
	}
	s := d.of("a5000258", "a501031541", "a501030056", "a50002", "58", "78", "a5", "a50b01", "ffff")
	for d.Intn(3) == 0 {
		s += d.of("a5000258", "a501031541", "a5", "01", "a50103ff57")
	}
	return s
}

// line: of every kind, most often those that move a watch on.
func (d drawer) line() string {
	switch d.Intn(24) {
	case 0, 1, 2, 3, 4, 5, 6, 7:
		return "read " + d.number(2) + " " + d.number(4) + " " + d.number(9) + " " + d.number(2) + " " + d.tag()
	case 8, 9, 10, 11:
		return "tick " + d.number(4)
	case 12, 13:
		return "where " + d.number(9) + " " + d.tag()
	case 14, 15:
		return "in " + d.number(9) + " " + d.tag()
	case 16, 17:
		return "feed " + d.number(3) + " " + d.hex()
	case 18:
		return "warm " + d.number(3)
	case 19:
		return d.of("alerts", "drops")
	case 20:
		return "at " + d.number(4) + " " + d.number(4) + " " + d.number(4)
	case 21:
		return d.of(d.rule(), "start", d.set())
	case 22:
		return d.of("alerts", "drops", "start") + d.of("", "", " ", "  ", " 1")
	}
	return d.spoilt()
}

// spoilt: a line with one byte more, one fewer, or another one.
func (d drawer) spoilt() string {
	s := []byte(d.of("tick 1", "where 0 item:0.0.000000.1", "in 0 item:0.0.000000.1", "feed 0 a5000258", "read 0 0 1 0 item:0.0.000000.1", "warm 0", "alerts", "drops", "start", "at 0 0 1", "set 1 0 1 1 1 1", "rule a: any 0 then 1 within 3"))
	i := d.Intn(len(s))
	switch d.Intn(3) {
	case 0:
		return string(s[:i]) + d.of(" ", "0", "1", "-", "\t", "\n", "\xff", "a", ".") + string(s[i:])
	case 1:
		return string(s[:i]) + string(s[i+1:])
	}
	s[i] = d.of(" ", "0", "1", "-", "\t", "A", "\xff")[0]
	return string(s)
}

// session of lines: at first most often a watch is made ready.
func (d drawer) session() []string {
	var l []string
	if d.Intn(10) > 0 {
		l = append(l, d.set(), "at 0 0 0", "at 0 1 1", "at 0 2 2", "at 1 0 1", "at 1 1 0", d.rule(), d.rule(), "start")
	}
	for range d.Intn(api.MaxLines + 1 - len(l)) {
		l = append(l, d.line())
	}
	return l
}

// H1, H2: drawn sessions are answered as plain has it, and all kinds of answers come of them.
func TestDrawnSessions(t *testing.T) {
	d := drawer{rand.New(rand.NewSource(8))}
	kinds := map[string]int{}
	for range 3000 {
		lines := d.session()
		for i, a := range agree(t, lines) {
			name, _, _ := strings.Cut(lines[i], " ")
			kinds[name+" "+kindOf(a)]++
		}
	}
	for _, k := range []string{
		"set ok", "at ok", "at error 1", "rule ok", "rule error 4", "start ok", "start error 1", "start error 7",
		"feed error 5", "feed error 4", "feed error 1", "feed number", "read error 5", "read error 4", "read error 1", "read number",
		"tick error 5", "tick error 4", "tick error 1", "tick number", "where error 5", "where error 4", "where error 1", "where number", "where -",
		"in error 5", "in error 4", "in error 1", "in -", "in tag", "warm error 5", "warm error 4", "warm error 1", "warm number",
		"alerts error 5", "alerts error 4", "alerts -", "alerts list", "drops error 5", "drops error 4", "drops numbers",
	} {
		if kinds[k] == 0 {
			t.Errorf("no drawn line was answered so: %s", k)
		}
	}
}

// kindOf an answer.
func kindOf(a string) string {
	switch {
	case a == "ok", a == "-", strings.HasPrefix(a, "error "):
		return a
	case !strings.Contains(a, " ") && strings.Contains(a, ":"):
		return "tag"
	case strings.Contains(a, ":"):
		return "list"
	case strings.Contains(a, " "):
		return "numbers"
	}
	return "number"
}

// H1, H2, Z1: whatever the lines are.
func FuzzRun(f *testing.F) {
	f.Add("set 1 0 1 1 1 1\nat 0 0 0\nat 0 1 1\nrule a: any 0 then 1 within 3\nstart\nread 0 0 1 0 item:0.0.000000.1\ntick 1\nread 0 1 1 0 item:0.0.000000.1\ntick 1\nalerts\ndrops\nwarm 0")
	f.Add(strings.Join(lines(document), "\n"))
	f.Add("feed 0 \nstart\nfeed 0 zz\nrule x\nfly\n")
	f.Fuzz(func(t *testing.T, s string) {
		lines := strings.Split(s, "\n")
		if len(lines) > api.MaxLines {
			refuses(t, lines)
			return
		}
		agree(t, lines)
	})
}
