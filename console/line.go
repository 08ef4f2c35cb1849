package console

import (
	"strconv"
	"strings"

	"cratewatch/api"
)

const (
	maxNumbers = 6     // of a command
	maxNumber  = 99999 // the last one of five digits
	hexDigits  = "0123456789abcdef"
)

// command: what a line says: its first word, the numbers behind it, and the text behind these.
type command struct {
	name    string
	numbers [maxNumbers]int
	text    string
}

// commandOf a line; false: it is none.
func commandOf(line string) (command, bool) {
	if len(line) > api.MaxLine {
		return command{}, false
	}
	// The only text with blanks of its own.
	if text, ok := strings.CutPrefix(line, "rule "); ok {
		return command{name: "rule", text: text}, true
	}
	words := strings.Split(line, " ")
	c := command{name: words[0]}
	behind, ok := wordsBehind(c.name)
	if !ok || len(words) != 1+behind[0]+behind[1] {
		return command{}, false
	}
	numbers, texts := words[1:1+behind[0]], words[1+behind[0]:]
	for i, word := range numbers {
		if c.numbers[i], ok = numberOf(word); !ok {
			return command{}, false
		}
	}
	if len(texts) > 0 {
		c.text = texts[0]
	}
	return c, true
}

// wordsBehind a command's name: how many numbers, and then how many texts; false: it is none.
func wordsBehind(name string) ([2]int, bool) {
	behind, ok := map[string][2]int{
		"set":    {6, 0},
		"at":     {3, 0},
		"start":  {0, 0},
		"feed":   {1, 1},
		"read":   {4, 1},
		"tick":   {1, 0},
		"where":  {1, 1},
		"in":     {1, 1},
		"warm":   {1, 0},
		"alerts": {0, 0},
		"drops":  {0, 0},
	}[name]
	return behind, ok
}

// numberOf a word; false: it is none.
func numberOf(word string) (int, bool) {
	n, err := strconv.Atoi(word)
	// Only what would be written is read: this refuses a plus, and noughts ahead.
	if err != nil || strconv.Itoa(n) != word || !between(n, -1, maxNumber) {
		return 0, false
	}
	return n, true
}

// bytesOf digits, two a byte; false: they aren't such.
func bytesOf(digits string) (string, bool) {
	if len(digits)%2 != 0 {
		return "", false
	}
	b := make([]byte, len(digits)/2)
	for i := range b {
		high := strings.IndexByte(hexDigits, digits[2*i])
		low := strings.IndexByte(hexDigits, digits[2*i+1])
		if high < 0 || low < 0 {
			return "", false
		}
		b[i] = byte(high<<4 | low)
	}
	return string(b), true
}
