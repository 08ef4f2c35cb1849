// Package tag: tags as bytes and as text.
package tag

import (
	"strconv"
	"strings"

	"cratewatch/api"
)

// Widths of the fields that are the same for every Part.
const (
	numberBits = 64
	kindBits   = 8
	filterBits = 3
	partBits   = 3
	serialBits = 24
)

const (
	kindOffset = 47 // the first byte is the Kind and this
	maxFilter  = 1<<filterBits - 1
	maxSerial  = 1<<serialBits - 1
)

// split: how a Part shares bits and digits between Company and Ref.
type split struct{ companyBits, companyDigits, refBits, refDigits int }

// splits, by Part.
var splits = [6]split{
	{20, 6, 6, 1},
	{17, 5, 9, 2},
	{14, 4, 12, 3},
	{10, 3, 16, 4},
	{7, 2, 19, 5},
	{4, 1, 22, 6},
}

// kindWords, from Item on.
var kindWords = [3]string{"item", "case", "pallet"}

// Check a tag.
func Check(t api.Tag) error {
	if !between(t.Kind, api.Item, api.Pallet) ||
		!between(t.Filter, 0, maxFilter) ||
		!between(t.Part, 0, len(splits)-1) ||
		!between(t.Serial, 0, maxSerial) {
		return api.ErrBound
	}
	p := splits[t.Part]
	if !hasDigits(t.Company, p.companyDigits) || !hasDigits(t.Ref, p.refDigits) {
		return api.ErrBound
	}
	return nil
}

// Bytes of a tag.
func Bytes(t api.Tag) (string, error) {
	if err := Check(t); err != nil {
		return "", err
	}
	p := splits[t.Part]
	var number uint64
	put := func(value, bits int) {
		number = number<<bits | uint64(value)
	}
	put(t.Kind+kindOffset, kindBits)
	put(t.Filter, filterBits)
	put(t.Part, partBits)
	put(t.Company, p.companyBits)
	put(t.Ref, p.refBits)
	put(t.Serial, serialBits)
	return bytesOf(number), nil
}

// Parse bytes.
func Parse(b string) (api.Tag, error) {
	if len(b) != api.TagBytes {
		return api.Tag{}, api.ErrShape
	}
	number := numberOf(b)
	left := numberBits
	take := func(bits int) int {
		left -= bits
		return int(number >> left & (1<<bits - 1))
	}
	var t api.Tag
	t.Kind = take(kindBits) - kindOffset
	t.Filter = take(filterBits)
	t.Part = take(partBits)
	// Three bits can say a Part that no row is for.
	if t.Part >= len(splits) {
		return api.Tag{}, api.ErrShape
	}
	t.Company = take(splits[t.Part].companyBits)
	t.Ref = take(splits[t.Part].refBits)
	t.Serial = take(serialBits)
	// The bits have room for more than the digits allow.
	if Check(t) != nil {
		return api.Tag{}, api.ErrShape
	}
	return t, nil
}

// Text of a tag.
func Text(t api.Tag) (string, error) {
	if err := Check(t); err != nil {
		return "", err
	}
	p := splits[t.Part]
	fields := []string{
		strconv.Itoa(t.Filter),
		padded(t.Company, p.companyDigits),
		padded(t.Ref, p.refDigits),
		strconv.Itoa(t.Serial),
	}
	return kindWords[t.Kind-api.Item] + ":" + strings.Join(fields, "."), nil
}

// Of a text: the tag.
func Of(s string) (api.Tag, error) {
	t, ok := guess(s)
	if !ok {
		return api.Tag{}, api.ErrText
	}
	// Only what would be written is read: this refuses signs, noughts ahead and digits too few or too many.
	written, err := Text(t)
	if err != nil || written != s {
		return api.Tag{}, api.ErrText
	}
	return t, nil
}

// guess: the only tag whose text s may be; it may be no tag, or of another text.
func guess(s string) (api.Tag, bool) {
	word, rest, _ := strings.Cut(s, ":")
	fields := strings.SplitN(rest, ".", 4)
	if len(fields) != 4 {
		return api.Tag{}, false
	}
	var numbers [4]int
	for i := range 4 {
		n, err := strconv.Atoi(fields[i])
		if err != nil {
			return api.Tag{}, false
		}
		numbers[i] = n
	}
	return api.Tag{
		Kind:   kindOf(word),
		Filter: numbers[0],
		// Each Part has one digit of the Company fewer than the one ahead.
		Part:    splits[0].companyDigits - len(fields[1]),
		Company: numbers[1],
		Ref:     numbers[2],
		Serial:  numbers[3],
	}, true
}

// kindOf a word; 0, which is no Kind, of any other.
func kindOf(word string) int {
	for i, w := range kindWords {
		if w == word {
			return api.Item + i
		}
	}
	return 0
}

// bytesOf a number, the highest first.
func bytesOf(number uint64) string {
	var b [api.TagBytes]byte
	for i := range api.TagBytes {
		b[i] = byte(number >> (numberBits - 8 - 8*i))
	}
	return string(b[:])
}

// numberOf TagBytes bytes, the highest first.
func numberOf(b string) uint64 {
	var number uint64
	for i := range api.TagBytes {
		number = number<<8 | uint64(b[i])
	}
	return number
}

// padded with noughts ahead.
func padded(n, digits int) string {
	s := strconv.Itoa(n)
	return strings.Repeat("0", digits-len(s)) + s
}

// hasDigits: is n a number of so many digits at most?
func hasDigits(n, digits int) bool {
	limit := 1
	for range digits {
		limit *= 10
	}
	return between(n, 0, limit-1)
}

func between(n, low, high int) bool { return low <= n && n <= high }
