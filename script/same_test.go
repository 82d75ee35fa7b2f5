package script_test

import (
	"bytes"
	"fmt"
	"math"
	"math/rand/v2"
	"slices"
	"testing"

	"garderobe/script"
)

// held fails unless Same and Like of two lists are this, both ways round.
func held(t *testing.T, what string, a, b []script.Act, same, like bool) {
	t.Helper()
	for _, p := range [][2][]script.Act{{a, b}, {b, a}} {
		if got := script.Same(p[0], p[1]); got != same {
			t.Errorf("%s: Same %v", what, got)
		}
		if got := script.Like(p[0], p[1]); got != like {
			t.Errorf("%s: Like %v", what, got)
		}
	}
}

// change is something that makes another act of one.
type change struct {
	what string
	do   func(a *script.Act)
}

// changes are all of one field alone.
func changes() []change {
	l := []change{
		{"Kind", func(a *script.Act) { a.Kind++ }},
		{"Kind far off", func(a *script.Act) { a.Kind += 1 << 40 }},
		{"Yes", func(a *script.Act) { a.Yes = !a.Yes }},
		{"a byte more", func(a *script.Act) { a.B = append(bytes.Clone(a.B), 0) }},
		{"many bytes more", func(a *script.Act) { a.B = append(bytes.Clone(a.B), make([]byte, 256)...) }},
	}
	for _, x := range numbers() {
		for _, by := range []int{1, -1, 1 << 16, 1 << 32, math.MinInt} {
			l = append(l, change{fmt.Sprint(x.letter, " by ", by), func(a *script.Act) { *x.of(a) += by }})
		}
	}
	return l
}

// P27.2: lists that differ in one field of one act.
func TestSameFields(t *testing.T) {
	for kind := range has() {
		for at := range 3 {
			l := []script.Act{full(kind, 9, 4), full((kind+1)%20, 9, 4), full((kind+2)%20, 9, 4)}
			held(t, "the same", l, deep(l), true, true)
			for _, c := range changes() {
				other := deep(l)
				c.do(&other[at])
				held(t, fmt.Sprintf("%s of kind %d, at %d", c.what, l[at].Kind, at), l, other, false, false)
			}
		}
	}
}

// P27.2: lists that differ in the bytes of B: of a Write they are like one another, if there are as many.
func TestSameBytes(t *testing.T) {
	for kind := -1; kind < 22; kind++ { // acts that may not be are held against one another, too
		for n := 1; n < 6; n++ {
			for at := range n {
				a := script.Act{Kind: kind, Which: 1, B: text(5, n)}
				b := deep([]script.Act{a})[0]
				b.B[at] ^= 1
				held(t, fmt.Sprintf("byte %d of %d of kind %d", at, n, kind), []script.Act{a}, []script.Act{b}, false, kind == script.Write)
				more := script.Act{Kind: script.Write, B: []byte{1}}
				held(t, "with a Write beside it", []script.Act{more, a}, []script.Act{more, b}, false, kind == script.Write)
				b.Which++
				held(t, "bytes, and Which", []script.Act{a}, []script.Act{b}, false, false)
			}
			a, b := script.Act{Kind: kind, B: text(5, n)}, script.Act{Kind: kind, B: text(5, n-1)}
			held(t, "a byte less", []script.Act{a}, []script.Act{b}, false, false)
			held(t, "none", []script.Act{a}, []script.Act{{Kind: kind}}, false, false)
		}
		held(t, "nil and empty", []script.Act{{Kind: kind}}, []script.Act{{Kind: kind, B: []byte{}}}, true, true)
	}
	a, b := script.Act{Kind: script.Write, B: []byte{1}}, script.Act{Kind: script.Tamper, B: []byte{2}}
	held(t, "a Write and another kind", []script.Act{a}, []script.Act{b}, false, false)
	long, other := script.Act{Kind: script.Write, B: make([]byte, 3000)}, script.Act{Kind: script.Write, B: text(1, 3000)}
	held(t, "long ones", []script.Act{long}, []script.Act{other}, false, true)
}

// P27.2: how many acts there are.
func TestSameLen(t *testing.T) {
	l := every()
	for n := range len(l) {
		held(t, fmt.Sprint(n, " acts"), l[:n], deep(l[:n]), true, true)
		held(t, fmt.Sprint("one more than ", n), l[:n], l[:n+1], false, false)
		held(t, fmt.Sprint("all but ", n), l[:n], l, false, false)
	}
	held(t, "nil and empty", nil, []script.Act{}, true, true)
	held(t, "none and one", nil, []script.Act{{}}, false, false)
	write := script.Act{Kind: script.Write, B: []byte{1}}
	held(t, "a Write and two", []script.Act{write}, []script.Act{write, write}, false, false)
	turned := slices.Clone(l)
	slices.Reverse(turned)
	held(t, "in another order", l, turned, false, false)
}

// P27.2, P27.4: lists by chance, against the words.
func TestSameChance(t *testing.T) {
	likes := 0
	for seed := range uint64(3000) {
		r := rand.New(rand.NewPCG(seed, 4))
		l := make([]script.Act, r.IntN(5))
		for k := range l {
			if l[k] = chance(r); r.IntN(2) == 0 {
				l[k] = full(script.Write, 3, r.IntN(9))
			}
		}
		o := deep(l)
		for range r.IntN(3) {
			if len(o) == 0 {
				break
			}
			a := &o[r.IntN(len(o))]
			if n := len(a.B); n > 0 && r.IntN(3) > 0 {
				a.B[r.IntN(n)] += byte(r.IntN(3))
			} else {
				changes()[r.IntN(len(changes()))].do(a)
			}
		}
		bare := func(l []script.Act) string {
			l = deep(l)
			for k := range l {
				if l[k].Kind == script.Write {
					clear(l[k].B)
				}
			}
			return told(l)
		}
		same, like := told(l) == told(o), bare(l) == bare(o)
		held(t, fmt.Sprintf("%s and %s", told(l), told(o)), l, o, same, like)
		if like && !same {
			likes++
		}
	}
	if likes < 50 {
		t.Error("too few lists were like one another:", likes)
	}
}
