package lines

import (
	"strconv"
	"strings"

	"garderobe/script"
)

const digits = "0123456789abcdef"

// write is the line of an act that may be.
func write(a script.Act) string {
	k := kinds[a.Kind]
	out := k.word
	for _, sign := range k.has {
		out += blank + told(a, sign)
	}
	return out
}

// told is the word for what an act has of a sign.
func told(a script.Act, sign rune) string {
	switch {
	case sign == mode && a.Yes:
		return forWriting
	case sign == mode:
		return forReading
	case sign == target && a.Yes:
		return noObject
	case sign == data:
		return hex(a.B)
	}
	return strconv.Itoa(*field(&a, sign))
}

// hex is bytes as a word: two signs for each.
func hex(b []byte) string {
	if len(b) == 0 {
		return noBytes
	}
	var out strings.Builder
	for _, c := range b {
		out.WriteByte(digits[c>>4])
		out.WriteByte(digits[c&15])
	}
	return out.String()
}
