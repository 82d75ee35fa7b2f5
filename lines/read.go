package lines

import (
	"strings"

	"garderobe/script"
)

const longest = 5 // digits of a number

// words are those of a line that are still to be read.
type words struct{ rest string }

// wordsOf are those of a line, without its remark.
func wordsOf(line string) *words {
	text, _, _ := strings.Cut(line, remark)
	return &words{strings.Trim(text, blanks)}
}

// none tells whether there is no word any more.
func (w *words) none() bool { return w.rest == "" }

// next is the next word; "" behind the last one.
func (w *words) next() string {
	end := strings.IndexAny(w.rest, blanks)
	if end < 0 {
		end = len(w.rest)
	}
	word := w.rest[:end]
	w.rest = strings.TrimLeft(w.rest[end:], blanks)
	return word
}

// read is the act that words tell, of which next answers one behind the other; false, if they are none's.
func read(next func() string) (script.Act, bool) {
	n, ok := named(next())
	a := script.Act{Kind: n}
	for _, sign := range kinds[n].has {
		ok = ok && take(&a, sign, next())
	}
	if !ok || next() != "" || !script.May(a) {
		return script.Act{}, false
	}
	return a, true
}

// take puts what a word tells of a sign into an act; false, if it is no such word.
func take(a *script.Act, sign rune, word string) bool {
	switch {
	case sign == mode:
		a.Yes = word == forWriting
		return a.Yes || word == forReading
	case sign == target && word == noObject:
		a.Yes = true
		return true
	case sign == data:
		return unhex(&a.B, word)
	}
	return count(field(a, sign), word)
}

// count puts the number that a word is there; false, if it is none. One that is too great is in no act that may be.
func count(there *int, word string) bool {
	if word == "" || len(word) > longest {
		return false
	}
	for _, c := range word {
		if c < '0' || c > '9' {
			return false
		}
		*there = *there*10 + int(c-'0')
	}
	return true
}

// unhex puts the bytes that a word is there; false, if it is none.
func unhex(there *[]byte, word string) bool {
	if word == noBytes {
		return true
	}
	if len(word)%2 != 0 || word == "" {
		return false
	}
	b := make([]byte, len(word)/2)
	for k := range len(word) {
		n := strings.IndexByte(digits, word[k])
		if n < 0 {
			return false
		}
		b[k/2] = b[k/2]<<4 | byte(n)
	}
	*there = b
	return true
}
