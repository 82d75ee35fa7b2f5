package lines

import "garderobe/script"

// Signs of what an act has beside its word.
const (
	mode   = 'M' // Yes: read or write
	object = 'W' // Which
	target = 'T' // Which, or none
	root   = 'K'
	number = 'N'
	place  = 'A' // At
	data   = 'B'
)

// Words that are neither numbers nor bytes.
const (
	forReading = "read"
	forWriting = "write"
	noObject   = "none"
	noBytes    = "-"
)

// kind is how the acts of a kind are written: their word, and a sign of each thing that stands behind it.
type kind struct{ word, has string }

// kinds are those of acts, each by its number.
var kinds = [...]kind{
	script.Format:  {"format", ""},
	script.Open:    {"open", "M"},
	script.Close:   {"close", ""},
	script.Begin:   {"begin", ""},
	script.Commit:  {"commit", ""},
	script.Abort:   {"abort", ""},
	script.Alloc:   {"alloc", "N"},
	script.Free:    {"free", "W"},
	script.Realloc: {"realloc", "WN"},
	script.Write:   {"write", "WAB"},
	script.Read:    {"read", "WAN"},
	script.Set:     {"set", "KT"},
	script.Root:    {"root", "K"},
	script.Size:    {"size", "W"},
	script.Stat:    {"stat", ""},
	script.Check:   {"check", ""},
	script.Crash:   {"crash", "B"},
	script.Arm:     {"arm", "NB"},
	script.Tamper:  {"tamper", "AB"},
	script.On:      {"on", ""},
}

// named is the number of the kind that a word names; false, if there is none.
func named(word string) (int, bool) {
	for n, k := range kinds {
		if k.word == word {
			return n, true
		}
	}
	return 0, false
}

// field is the number of an act that a sign tells of.
func field(a *script.Act, sign rune) *int {
	switch sign {
	case root:
		return &a.K
	case number:
		return &a.N
	case place:
		return &a.At
	default: // object, target
		return &a.Which
	}
}
