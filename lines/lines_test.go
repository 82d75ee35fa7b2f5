package lines_test

import (
	"bytes"
	"math"
	"math/rand/v2"
	"strings"
	"testing"

	"garderobe/api"
	"garderobe/lines"
	"garderobe/script"
)

// every is an act of each kind with its line, and of those that have two forms, both; numbers and bytes at their edges.
func every() []struct {
	a script.Act
	s string
} {
	great := text(1, mostBytes)
	return []struct {
		a script.Act
		s string
	}{
		{script.Act{Kind: script.Format}, "format"},
		{script.Act{Kind: script.Open}, "open read"},
		{script.Act{Kind: script.Open, Yes: true}, "open write"},
		{script.Act{Kind: script.Close}, "close"},
		{script.Act{Kind: script.Begin}, "begin"},
		{script.Act{Kind: script.Commit}, "commit"},
		{script.Act{Kind: script.Abort}, "abort"},
		{script.Act{Kind: script.Alloc, N: 5}, "alloc 5"},
		{script.Act{Kind: script.Alloc}, "alloc 0"},
		{script.Act{Kind: script.Alloc, N: mostNumber}, "alloc 65535"},
		{script.Act{Kind: script.Free, Which: 10}, "free 10"},
		{script.Act{Kind: script.Realloc, Which: 3, N: 400}, "realloc 3 400"},
		{script.Act{Kind: script.Write, Which: 1, At: 2, B: []byte("hi")}, "write 1 2 6869"},
		{script.Act{Kind: script.Write, Which: mostNumber, At: mostNumber}, "write 65535 65535 -"},
		{script.Act{Kind: script.Write, B: great}, "write 0 0 " + hexed(great)},
		{script.Act{Kind: script.Write, B: []byte{0x00, 0x0f, 0xf0, 0xff, 0xab}}, "write 0 0 000ff0ffab"},
		{script.Act{Kind: script.Read, Which: 7, At: 8, N: 9}, "read 7 8 9"},
		{script.Act{Kind: script.Set, K: 15, Which: 2}, "set 15 2"},
		{script.Act{Kind: script.Set, K: 15}, "set 15 0"},
		{script.Act{Kind: script.Set, K: 3, Yes: true}, "set 3 none"},
		{script.Act{Kind: script.Root, K: 16}, "root 16"},
		{script.Act{Kind: script.Size, Which: 12345}, "size 12345"},
		{script.Act{Kind: script.Stat}, "stat"},
		{script.Act{Kind: script.Check}, "check"},
		{script.Act{Kind: script.Crash}, "crash -"},
		{script.Act{Kind: script.Crash, B: []byte{1, 0}}, "crash 0100"},
		{script.Act{Kind: script.Arm, N: 7}, "arm 7 -"},
		{script.Act{Kind: script.Arm, N: 1000, B: []byte{16}}, "arm 1000 10"},
		{script.Act{Kind: script.Tamper, At: 40000, B: []byte{9}}, "tamper 40000 09"},
		{script.Act{Kind: script.Tamper, At: 1}, "tamper 1 -"},
		{script.Act{Kind: script.On}, "on"},
	}
}

// hexed is bytes as two signs each.
func hexed(b []byte) string {
	const signs = "0123456789abcdef"
	var s string
	for _, c := range b {
		s += string(signs[c/16]) + string(signs[c%16])
	}
	return s
}

// P31.1: the line of an act of each kind; P31.2: and back.
func TestEach(t *testing.T) {
	for _, x := range every() {
		if s, e := lines.Line(x.a); s != x.s || e != api.OK {
			t.Errorf("Line of %v: error %d, %.80q", x.a, e, s)
		}
		parsed(t, x.s, x.a)
		parsed(t, x.s+"\n", x.a)
		if spelt(x.a) != x.s {
			t.Errorf("the model has %q", spelt(x.a))
		}
	}
}

// parsed fails if a text's acts are not these.
func parsed(t *testing.T, s string, want ...script.Act) {
	t.Helper()
	if l, n, e := lines.Parse(s); e != api.OK || n != 0 || !script.Same(l, want) {
		t.Errorf("Parse of %.80q: line %d, error %d, %.200v", s, n, e, l)
	}
}

// refused fails if a text is not refused for the line of a number.
func refused(t *testing.T, s string, line int) {
	t.Helper()
	if l, n, e := lines.Parse(s); e != api.ErrForm || n != line || len(l) != 0 {
		t.Errorf("Parse of %.80q: line %d, not %d; error %d, %.200v", s, n, line, e, l)
	}
}

// Example 1.
func TestExample(t *testing.T) {
	parsed(t, "open write # go", script.Act{Kind: script.Open, Yes: true})
	parsed(t, "write 0 3 6869", script.Act{Kind: script.Write, At: 3, B: []byte("hi")})
}

// P31.1: acts that may not be have no line.
func TestNoLine(t *testing.T) {
	for _, a := range wrong() {
		if s, e := lines.Line(a); e != api.ErrArg || s != "" {
			t.Errorf("Line of %.80v: error %d, %.80q", a, e, s)
		}
		for _, l := range [][]script.Act{{a}, {{Kind: script.On}, a}, {a, {Kind: script.On}}, {a, a}} {
			if s, e := lines.Print(l); e != api.ErrArg || s != "" {
				t.Errorf("Print of %.80v: error %d, %.80q", l, e, s)
			}
		}
	}
}

// wrong are acts that have no line.
func wrong() []script.Act {
	l := []script.Act{
		{Kind: -1}, {Kind: 20}, {Kind: math.MaxInt}, {Kind: math.MinInt}, {Kind: 256}, {Kind: 1 << 32},
		{Kind: script.Alloc, N: -1}, {Kind: script.Alloc, N: mostNumber + 1}, {Kind: script.Alloc, N: math.MinInt}, {Kind: script.Alloc, N: math.MaxInt},
		{Kind: script.Free, Which: mostNumber + 1}, {Kind: script.Size, Which: -1}, {Kind: script.Root, K: mostNumber + 1}, {Kind: script.Root, K: -5},
		{Kind: script.Realloc, Which: -1, N: 1}, {Kind: script.Realloc, Which: 1, N: -1}, {Kind: script.Tamper, At: mostNumber + 1},
		{Kind: script.Write, B: make([]byte, mostBytes+1)}, {Kind: script.Crash, B: make([]byte, 1<<16)}, {Kind: script.Arm, N: -1},
		{Kind: script.Set, Yes: true, Which: 1}, {Kind: script.Set, Yes: true, K: 4, Which: mostNumber}, {Kind: script.Set, Yes: true, Which: -1},
		{Kind: script.Set, Which: -1}, {Kind: script.Set, K: mostNumber + 1, Yes: true},
		{Kind: script.Format, Yes: true}, {Kind: script.Close, N: 1}, {Kind: script.On, B: []byte{0}}, {Kind: script.Open, Which: 1},
		{Kind: script.Alloc, Which: 1}, {Kind: script.Free, N: 1}, {Kind: script.Read, B: []byte{1}}, {Kind: script.Crash, At: 1}, {Kind: script.Root, Yes: true},
	}
	return l
}

// P31.1: numbers of each kind, at their edges and beyond, by the words.
func TestNumbers(t *testing.T) {
	numbers := []int{math.MinInt, -1, 0, 1, 10, mostNumber, mostNumber + 1, math.MaxInt}
	for kind := -1; kind <= 21; kind++ {
		for _, n := range numbers {
			for _, a := range []script.Act{{Which: n}, {K: n}, {N: n}, {At: n}, {Which: n, N: n}, {Which: n, At: n}, {K: n, Which: n}, {K: n, Yes: true}, {Which: n, At: n, N: n}} {
				a.Kind = kind
				s, e := lines.Line(a)
				if prints(a) != (e == api.OK) {
					t.Errorf("Line of %v: error %d", a, e)
				}
				if prints(a) && s != spelt(a) || !prints(a) && (s != "" || e != api.ErrArg) {
					t.Errorf("Line of %v: error %d, %q", a, e, s)
				}
			}
		}
	}
}

// P31.1: Print of no acts, of one, of many; the first error, wherever it stands.
func TestPrint(t *testing.T) {
	for _, l := range [][]script.Act{nil, {}} {
		if s, e := lines.Print(l); s != "" || e != api.OK {
			t.Errorf("Print of none: error %d, %q", e, s)
		}
	}
	var l []script.Act
	var want string
	for _, x := range every() {
		if s, e := lines.Print([]script.Act{x.a}); s != x.s+"\n" || e != api.OK {
			t.Errorf("Print of %v: error %d, %.80q", x.a, e, s)
		}
		l, want = append(l, x.a), want+x.s+"\n"
	}
	if s, e := lines.Print(l); s != want || e != api.OK {
		t.Errorf("Print of all: error %d, %q", e, s)
	}
	for k := range l {
		was := l[k]
		l[k] = script.Act{Kind: script.Set, Yes: true, Which: 1}
		if s, e := lines.Print(l); s != "" || e != api.ErrArg {
			t.Errorf("Print of all, the one at %d wrong: error %d, %q", k, e, s)
		}
		l[k] = was
	}
}

// P31.3: what is printed is parsed as it was; P31.1: and is what the words say.
func TestBack(t *testing.T) {
	for seed := range uint64(60) {
		r := rand.New(rand.NewPCG(seed, 1))
		var l []script.Act
		var want string
		for range r.IntN(60) {
			l = append(l, chance(r))
			want += spelt(l[len(l)-1]) + "\n"
		}
		s, e := lines.Print(l)
		if e != api.OK || s != want {
			t.Fatalf("seed %d: Print: error %d", seed, e)
		}
		parsed(t, s, l...)
		parsed(t, strings.TrimSuffix(s, "\n"), l...)
		again, _, _ := lines.Parse(s)
		if x, _ := lines.Print(again); x != s {
			t.Errorf("seed %d: printed unlike", seed)
		}
	}
}

// Rules 4 and 5: what is handed in is neither changed nor kept, and what is answered shares memory with nothing.
func TestOwn(t *testing.T) {
	b := []byte{1, 2, 3, 4}[:2]
	l := []script.Act{{Kind: script.Crash, B: b}, {Kind: script.Write, B: b}}
	s, _ := lines.Print(l)
	one, _ := lines.Line(l[0])
	if !bytes.Equal(b[:4], []byte{1, 2, 3, 4}) || len(l) != 2 || l[0].Kind != script.Crash || len(l[1].B) != 2 {
		t.Error("something was changed")
	}
	b[0] = 9
	if s != "crash 0102\nwrite 0 0 0102\n" || one != "crash 0102" {
		t.Errorf("%q, %q", s, one)
	}
	x, _, _ := lines.Parse(s)
	y, _, _ := lines.Parse(s)
	for k := range x {
		full := x[k].B[:cap(x[k].B)]
		for i := range full {
			full[i] ^= 255
		}
		x[k].B = append(x[k].B, 7, 7, 7, 7)
		x[k].Kind = 19
	}
	_ = append(x[:1], script.Act{Kind: 5})
	want := []script.Act{{Kind: script.Crash, B: []byte{1, 2}}, {Kind: script.Write, B: []byte{1, 2}}}
	if !script.Same(y, want) {
		t.Errorf("two answers share memory: %v", y)
	}
	parsed(t, s, want...)
	x, _, _ = lines.Parse(s)
	own := x[0].B[:cap(x[0].B)]
	for i := range own {
		own[i] ^= 255
	}
	_ = append(x[0].B, 7, 7, 7, 7, 7, 7, 7, 7)
	if !bytes.Equal(x[1].B, []byte{1, 2}) {
		t.Error("acts of one answer share memory")
	}
}
