package script_test

import (
	"bytes"
	"fmt"
	"math"
	"math/rand/v2"
	"slices"
	"strings"
	"testing"

	"garderobe/api"
	"garderobe/script"
)

// The kinds' numbers.
func TestKinds(t *testing.T) {
	for k, kind := range []int{script.Format, script.Open, script.Close, script.Begin, script.Commit, script.Abort, script.Alloc, script.Free, script.Realloc, script.Write, script.Read, script.Set, script.Root, script.Size, script.Stat, script.Check, script.Crash, script.Arm, script.Tamper, script.On} {
		if kind != k {
			t.Errorf("kind %d is %d", k, kind)
		}
	}
}

// The chapter's example, and some more bytes that are written out.
func TestExample(t *testing.T) {
	for want, a := range map[string]script.Act{
		"060000000000050000000000":                             {Kind: script.Alloc, N: 5},
		"000000000000000000000000":                             {Kind: script.Format},
		"010100000000000000000000":                             {Kind: script.Open, Yes: true},
		"080002010000040300000000":                             {Kind: script.Realloc, Which: 0x102, N: 0x304},
		"0900ffff0000000001800200aabb":                         {Kind: script.Write, Which: 65535, At: 0x8001, B: []byte{0xaa, 0xbb}},
		"0b0107000f00000000000000":                             {Kind: script.Set, Yes: true, Which: 7, K: 15},
		"0a0001000000020003000000":                             {Kind: script.Read, Which: 1, N: 2, At: 3},
		"110000000000090000000101" + strings.Repeat("07", 257): {Kind: script.Arm, N: 9, B: bytes.Repeat([]byte{7}, 257)},
	} {
		b, e := script.Encode([]script.Act{a})
		if got := fmt.Sprintf("%x", b); e != api.OK || got != want {
			t.Errorf("%v: %s, error %d; not %s", a, got, e, want)
		}
		if l, e := script.Parse(b); e != api.OK || told(l) != told([]script.Act{a}) {
			t.Errorf("%s: %v, error %d", want, l, e)
		}
	}
}

// allowed fails unless May, and Encode of this act alone, say what the words say.
func allowed(t *testing.T, what string, a script.Act, want bool) {
	t.Helper()
	if may(a) != want {
		t.Fatalf("%s: the test's own words say %v", what, !want)
	}
	if got := script.May(a); got != want {
		t.Errorf("%s: May %v", what, got)
	}
	b, e := script.Encode([]script.Act{a})
	if want && (e != api.OK || !bytes.Equal(b, spelt(a))) || !want && (e != api.ErrArg || len(b) != 0) {
		t.Errorf("%s: Encode %x, error %d", what, b, e)
	}
}

// P27.1: kinds there are, and those just below and above.
func TestMayKinds(t *testing.T) {
	for kind := range has() {
		allowed(t, fmt.Sprint("kind ", kind), script.Act{Kind: kind}, true)
		for _, n := range []int{0, 1, mostNumber} {
			allowed(t, fmt.Sprint("kind ", kind, " with all it has, ", n), full(kind, n, 7), true)
		}
	}
	for _, kind := range []int{-1, -2, 20, 21, 100, 255, 256, 262, 65536, math.MaxInt, math.MinInt, math.MinInt + 6} {
		allowed(t, fmt.Sprint("kind ", kind), script.Act{Kind: kind}, false)
	}
}

// P27.1: each number of each kind alone, whether the kind has it or not.
func TestMayNumbers(t *testing.T) {
	for kind, own := range has() {
		for _, x := range numbers() {
			for _, n := range []int{0, 1, 255, 256, 65535, 65536, 65537, 131072, 1 << 32, -1, -65535, -65536, math.MaxInt, math.MinInt} {
				want := n == 0 || n > 0 && n <= 65535 && strings.Contains(own, x.letter)
				for _, a := range []script.Act{{Kind: kind}, full(kind, 9, 3)} {
					*x.of(&a) = n
					allowed(t, fmt.Sprint("kind ", kind, ", ", x.letter, " ", n), a, want)
				}
			}
		}
	}
}

// P27.1: Yes, and how many bytes there are.
func TestMayRest(t *testing.T) {
	for kind, own := range has() {
		allowed(t, fmt.Sprint("kind ", kind, " with Yes"), script.Act{Kind: kind, Yes: true}, kind == script.Open || kind == script.Set)
		for _, b := range [][]byte{nil, {}, {0}, {1}, make([]byte, 1023), make([]byte, 1024), make([]byte, 1025), make([]byte, 65536), make([]byte, 65537)} {
			want := len(b) == 0 || strings.Contains(own, "B") && len(b) <= 1024
			allowed(t, fmt.Sprint("kind ", kind, " with ", len(b), " bytes"), script.Act{Kind: kind, B: b}, want)
		}
	}
	for _, yes := range []bool{false, true} {
		for _, which := range []int{0, 1, 65535} {
			allowed(t, fmt.Sprint("Set with ", yes, which), script.Act{Kind: script.Set, Yes: yes, Which: which, K: 3}, true)
		}
	}
}

// P27.1, P27.3: scripts of acts that may be, there and back.
func TestBack(t *testing.T) {
	for seed := range uint64(300) {
		r := rand.New(rand.NewPCG(seed, 1))
		l := every()
		if seed > 0 {
			l = make([]script.Act, r.IntN(12))
			for k := range l {
				l[k] = chance(r)
			}
		}
		b, e := script.Encode(l)
		if want := speltAll(l); e != api.OK || !bytes.Equal(b, want) {
			t.Fatalf("Encode of %s: %x, error %d; not %x", told(l), b, e, want)
		}
		back, e := script.Parse(b)
		if e != api.OK || told(back) != told(l) || !script.Same(back, l) {
			t.Fatalf("Parse of %x: %s, error %d; not %s", b, told(back), e, told(l))
		}
	}
}

// P27.1: no acts, no bytes.
func TestNone(t *testing.T) {
	for _, l := range [][]script.Act{nil, {}} {
		if b, e := script.Encode(l); e != api.OK || len(b) != 0 {
			t.Errorf("Encode of none: %x, error %d", b, e)
		}
	}
	for _, b := range [][]byte{nil, {}} {
		if l, e := script.Parse(b); e != api.OK || len(l) != 0 {
			t.Errorf("Parse of no bytes: %v, error %d", l, e)
		}
	}
}

// P27.1: one act that may not be, at each place among others.
func TestEncodeRefuses(t *testing.T) {
	bad := []script.Act{{Kind: -1}, {Kind: 20}, {Kind: script.Format, N: 1}, {Kind: script.Alloc, N: 65536}, {Kind: script.Alloc, N: -1}, {Kind: script.Write, B: make([]byte, 1025)}, {Kind: script.Close, Yes: true}}
	for _, a := range bad {
		for at := range 4 {
			l := slices.Insert(every()[:3], at, a)
			if b, e := script.Encode(l); e != api.ErrArg || len(b) != 0 {
				t.Errorf("%v at %d: %x, error %d", a, at, b, e)
			}
		}
	}
}

// parses fails unless Parse answers what the words say, and Encode leads back.
func parses(t *testing.T, what string, b []byte) bool {
	t.Helper()
	want, good := parsed(b)
	got, e := script.Parse(b)
	switch {
	case !good && (e != api.ErrForm || len(got) != 0):
		t.Errorf("%s: %x: %s, error %d; not ErrForm", what, b, told(got), e)
	case good && (e != api.OK || told(got) != told(want)):
		t.Errorf("%s: %x: %s, error %d; not %s", what, b, told(got), e, told(want))
	case good:
		if back, e := script.Encode(got); e != api.OK || !bytes.Equal(back, b) {
			t.Errorf("%s: %x is encoded as %x, error %d", what, b, back, e)
		}
	}
	return good
}

// P27.1: bytes that are cut off at each place, and with more behind.
func TestParseCut(t *testing.T) {
	for kind := range has() {
		first, second := full(kind, 258, 6), full((kind+9)%20, 7, 2)
		l := []script.Act{first, second}
		b := speltAll(l)
		ends := []int{0, len(spelt(first)), len(b)}
		for n := range len(b) + 1 {
			if good := parses(t, fmt.Sprint("cut off at ", n), b[:n]); good != slices.Contains(ends, n) {
				t.Errorf("kind %d, cut off at %d of %d: %v", kind, n, len(b), good)
			}
		}
		for c := range 256 {
			if parses(t, "a byte behind", append(bytes.Clone(b), byte(c))) {
				t.Error("a byte too many may be")
			}
		}
	}
}

// P27.1: each byte of some scripts, set to each value.
func TestParseEachByte(t *testing.T) {
	for kind := range has() {
		for _, a := range []script.Act{full(kind, 258, 3), {Kind: kind}} {
			b := append(spelt(a), spelt(script.Act{Kind: script.Alloc, N: 4})...)
			for at := range b {
				for c := range 256 {
					x := bytes.Clone(b)
					x[at] = byte(c)
					parses(t, fmt.Sprint("byte ", at, " is ", c), x)
				}
			}
		}
	}
}

// P27.1: a Yes that is neither 0 nor 1; what a kind does not have; lengths of B.
func TestParseRefuses(t *testing.T) {
	for kind, own := range has() {
		for yes := range 256 {
			b := spelt(script.Act{Kind: kind})
			b[1] = byte(yes)
			if good := parses(t, "Yes", b); good != (yes == 0 || yes == 1 && strings.Contains(own, "Y")) {
				t.Errorf("kind %d, Yes %d: %v", kind, yes, good)
			}
		}
		for k, x := range numbers() {
			for low := range 2 {
				b := spelt(script.Act{Kind: kind})
				b[2+2*k+low] = 1
				if good := parses(t, x.letter, b); good != strings.Contains(own, x.letter) {
					t.Errorf("kind %d, %s: %v", kind, x.letter, good)
				}
			}
		}
		for _, n := range []int{0, 1, 1023, 1024, 1025, 1280, 65535} {
			a := script.Act{Kind: kind, B: text(3, n)}
			if good := parses(t, "bytes", spelt(a)); good != (n == 0 || n <= 1024 && strings.Contains(own, "B")) {
				t.Errorf("kind %d of %d bytes: %v", kind, n, good)
			}
			if n > 0 && parses(t, "too few bytes", spelt(a)[:header+n-1]) {
				t.Errorf("kind %d of %d bytes, one of which is not there, may be", kind, n)
			}
		}
	}
}

// P27.1: bytes of all kinds.
func TestParseChance(t *testing.T) {
	good := 0
	for seed := range uint64(20000) {
		r := rand.New(rand.NewPCG(seed, 2))
		b := make([]byte, r.IntN(60))
		for k := range b {
			b[k] = []byte{0, 0, 0, 0, 1, 2, byte(r.IntN(24)), byte(r.Uint32())}[r.IntN(8)]
		}
		if parses(t, "chance", b) {
			good++
		}
	}
	if good < 300 {
		t.Error("too few scripts were good:", good)
	}
}

// P27.3: which acts may be, is told by May, and by Encode, alike.
func TestMayChance(t *testing.T) {
	good := 0
	for seed := range uint64(20000) {
		r := rand.New(rand.NewPCG(seed, 3))
		a := script.Act{Kind: r.IntN(22) - 1, Yes: r.IntN(5) == 0}
		for _, x := range numbers() {
			if r.IntN(3) == 0 {
				*x.of(&a) = []int{1, 65535, 65536, -1, r.IntN(70000), int(r.Uint64())}[r.IntN(6)]
			}
		}
		if r.IntN(3) == 0 {
			a.B = make([]byte, []int{0, 1, 1024, 1025, r.IntN(2000)}[r.IntN(5)])
		}
		allowed(t, fmt.Sprintf("%v", a), a, may(a))
		if may(a) {
			good++
		}
	}
	if good < 1000 {
		t.Error("too few acts may be:", good)
	}
}
