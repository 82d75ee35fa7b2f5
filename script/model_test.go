package script_test

import (
	"bytes"
	"encoding/binary"
	"fmt"
	"math/rand/v2"
	"slices"
	"strings"

	"garderobe/script"
)

// By the words: what each kind has, in their order; Y is Yes, W Which, A At.
func has() []string {
	return []string{"", "Y", "", "", "", "", "N", "W", "WN", "WAB", "WAN", "KWY", "K", "W", "", "", "B", "NB", "AB", ""}
}

const (
	mostNumber = 65535
	mostBytes  = 1024
	header     = 12 // bytes of an act ahead of B
)

// number is a number of an act, and the letter by which has tells of it.
type number struct {
	letter string
	of     func(a *script.Act) *int
}

// numbers are all of an act, in the order of its bytes.
func numbers() []number {
	return []number{
		{"W", func(a *script.Act) *int { return &a.Which }},
		{"K", func(a *script.Act) *int { return &a.K }},
		{"N", func(a *script.Act) *int { return &a.N }},
		{"A", func(a *script.Act) *int { return &a.At }},
	}
}

// may tells by the words whether an act may be.
func may(a script.Act) bool {
	if a.Kind < 0 || a.Kind >= len(has()) || len(a.B) > mostBytes {
		return false
	}
	own := func(letter string) bool { return strings.Contains(has()[a.Kind], letter) }
	for _, x := range numbers() {
		if n := *x.of(&a); n < 0 || n > mostNumber || n != 0 && !own(x.letter) {
			return false
		}
	}
	return (!a.Yes || own("Y")) && (len(a.B) == 0 || own("B"))
}

// spelt is an act's bytes by the words.
func spelt(a script.Act) []byte {
	out := []byte{byte(a.Kind), 0}
	if a.Yes {
		out[1]++
	}
	for _, x := range numbers() {
		out = binary.LittleEndian.AppendUint16(out, uint16(*x.of(&a)))
	}
	return append(binary.LittleEndian.AppendUint16(out, uint16(len(a.B))), a.B...)
}

// speltAll is a script's bytes.
func speltAll(l []script.Act) []byte {
	var out []byte
	for _, a := range l {
		out = append(out, spelt(a)...)
	}
	return out
}

// parsed is the acts that bytes are by the words, and whether they are some.
func parsed(b []byte) ([]script.Act, bool) {
	var l []script.Act
	for len(b) > 0 {
		if len(b) < header || b[1] > 1 {
			return nil, false
		}
		a := script.Act{Kind: int(b[0]), Yes: b[1] == 1}
		for k, x := range numbers() {
			*x.of(&a) = int(binary.LittleEndian.Uint16(b[2+2*k:]))
		}
		end := header + int(binary.LittleEndian.Uint16(b[10:]))
		if end > len(b) {
			return nil, false
		}
		a.B = b[header:end]
		if !may(a) {
			return nil, false
		}
		l, b = append(l, a), b[end:]
	}
	return l, true
}

// told is all of some acts as a text: unlike ones have unlike texts.
func told(l []script.Act) string {
	var out strings.Builder
	for _, a := range l {
		fmt.Fprintf(&out, "%d %v %d %d %d %d %x;", a.Kind, a.Yes, a.Which, a.K, a.N, a.At, a.B)
	}
	return out.String()
}

// text is n bytes, others of each seed.
func text(seed uint64, n int) []byte {
	r, b := rand.New(rand.NewPCG(seed, 27)), make([]byte, n)
	for k := range b {
		b[k] = byte(r.Uint32())
	}
	return b
}

// full is an act of a kind in which all that it has is v, its bytes n.
func full(kind, v, n int) script.Act {
	a := script.Act{Kind: kind, Yes: strings.Contains(has()[kind], "Y")}
	for _, x := range numbers() {
		if strings.Contains(has()[kind], x.letter) {
			*x.of(&a) = v
		}
	}
	if strings.Contains(has()[kind], "B") {
		a.B = text(uint64(kind), n)
	}
	return a
}

// every is an act of every kind, in their order, and some of which much is 0.
func every() []script.Act {
	var l []script.Act
	for kind := range has() {
		l = append(l, full(kind, 300+kind, 5), script.Act{Kind: kind}, full(kind, mostNumber, 300))
	}
	return l
}

// chance is an act that may be.
func chance(r *rand.Rand) script.Act {
	a := full(r.IntN(len(has())), 0, 0)
	for _, x := range numbers() {
		if strings.Contains(has()[a.Kind], x.letter) {
			*x.of(&a) = []int{0, 1, 255, 256, mostNumber, r.IntN(mostNumber + 1)}[r.IntN(6)]
		}
	}
	a.Yes = a.Yes && r.IntN(2) == 0
	if strings.Contains(has()[a.Kind], "B") {
		a.B = text(r.Uint64(), []int{0, 1, 2, 255, 256, mostBytes, r.IntN(mostBytes + 1)}[r.IntN(7)])
	}
	return a
}

// deep is acts with bytes of their own.
func deep(l []script.Act) []script.Act {
	out := slices.Clone(l)
	for k := range out {
		out[k].B = bytes.Clone(out[k].B)
	}
	return out
}
