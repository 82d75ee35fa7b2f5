package lines_test

import (
	"encoding/hex"
	"fmt"
	"math/rand/v2"
	"regexp"
	"strconv"
	"strings"

	"garderobe/script"
)

const (
	mostNumber = 65535
	mostBytes  = 1024
)

// text is n bytes, others of each seed.
func text(seed uint64, n int) []byte {
	r, b := rand.New(rand.NewPCG(seed, 31)), make([]byte, n)
	for k := range b {
		b[k] = byte(r.Uint32())
	}
	return b
}

// forms are the chapter's table, by the numbers of the kinds.
func forms() []string {
	return []string{"format", "open M", "close", "begin", "commit", "abort", "alloc N", "free W", "realloc W N", "write W A B",
		"read W A N", "set K T", "root K", "size W", "stat", "check", "crash B", "arm N B", "tamper A B", "on"}
}

// spelt is by the words the line of an act that may be printed.
func spelt(a script.Act) string {
	l := strings.Fields(forms()[a.Kind])
	for k, x := range l {
		switch x {
		case "M":
			l[k] = map[bool]string{false: "read", true: "write"}[a.Yes]
		case "T":
			if l[k] = "none"; !a.Yes {
				l[k] = fmt.Sprint(a.Which)
			}
		case "B":
			if l[k] = hex.EncodeToString(a.B); len(a.B) == 0 {
				l[k] = "-"
			}
		case "N", "W", "K", "A":
			l[k] = fmt.Sprint(map[string]int{"N": a.N, "W": a.Which, "K": a.K, "A": a.At}[x])
		}
	}
	return strings.Join(l, " ")
}

// prints tells by the words whether an act has a line.
func prints(a script.Act) bool {
	return script.May(a) && (a.Kind != script.Set || !a.Yes || a.Which == 0)
}

// patterns are those of the lines of all kinds, without their remarks.
func patterns() []*regexp.Regexp {
	var l []*regexp.Regexp
	for _, f := range forms() {
		words := strings.Fields(f)
		for k, x := range words {
			switch x {
			case "M":
				words[k] = "(read|write)"
			case "T":
				words[k] = "([0-9]{1,5}|none)"
			case "B":
				words[k] = "(-|(?:[0-9a-f][0-9a-f])+)"
			case "N", "W", "K", "A":
				words[k] = "([0-9]{1,5})"
			}
		}
		l = append(l, regexp.MustCompile(`^[ \t]*`+strings.Join(words, `[ \t]+`)+`[ \t]*$`))
	}
	return l
}

// reader reads texts by the words.
type reader struct{ l []*regexp.Regexp }

func readers() reader { return reader{patterns()} }

// read is by the words the acts of a text, or the number of the first line that is none's.
func (r reader) read(s string) ([]script.Act, int) {
	var l []script.Act
	for k, line := range strings.Split(s, "\n") {
		if at := strings.IndexByte(line, '#'); at >= 0 {
			line = line[:at]
		}
		if strings.Trim(line, " \t") == "" {
			continue
		}
		a, ok := r.act(line)
		if !ok {
			return nil, k + 1
		}
		l = append(l, a)
	}
	return l, 0
}

// act is the act of a line with words.
func (r reader) act(line string) (script.Act, bool) {
	for kind, p := range r.l {
		found := p.FindStringSubmatch(line)
		if found == nil {
			continue
		}
		a, ok := script.Act{Kind: kind}, true
		for k, x := range strings.Fields(forms()[kind])[1:] {
			ok = put(&a, x, found[k+1]) && ok
		}
		return a, ok && len(a.B) <= mostBytes
	}
	return script.Act{}, false
}

// put puts a word that has the right form into an act; false, if it is too great a number.
func put(a *script.Act, x, word string) bool {
	n, _ := strconv.Atoi(word)
	switch x {
	case "M":
		a.Yes = word == "write"
	case "B":
		a.B, _ = hex.DecodeString(strings.Trim(word, "-"))
	case "T":
		a.Which, a.Yes = n, word == "none"
	default:
		*map[string]*int{"N": &a.N, "W": &a.Which, "K": &a.K, "A": &a.At}[x] = n
	}
	return n <= mostNumber || x == "B"
}

// chance is an act that may be printed, of any kind.
func chance(r *rand.Rand) script.Act {
	kind := r.IntN(len(forms()))
	has := forms()[kind]
	number := func(x string) int {
		if !strings.Contains(has+" ", " "+x+" ") {
			return 0
		}
		return []int{0, 1, 9, 10, 255, 9999, 10000, mostNumber, r.IntN(mostNumber + 1)}[r.IntN(9)]
	}
	a := script.Act{Kind: kind, Which: number("W"), K: number("K"), N: number("N"), At: number("A")}
	switch {
	case kind == script.Open:
		a.Yes = r.IntN(2) == 0
	case kind == script.Set && r.IntN(3) == 0:
		a.Yes = true
	case kind == script.Set:
		a.Which = r.IntN(mostNumber + 1)
	}
	if strings.HasSuffix(has, " B") {
		a.B = text(r.Uint64(), []int{0, 1, 2, 17, r.IntN(mostBytes + 1), mostBytes}[r.IntN(6)])
	}
	return a
}
