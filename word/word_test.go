package word_test

import (
	"bytes"
	"encoding/binary"
	"math"
	"math/rand"
	"testing"

	"garderobe/api"
	"garderobe/word"
)

// numbers have in each byte, and at each end, something that a wrong place or a lost bit would show.
func numbers() []uint64 {
	l := []uint64{0, 1, 255, 256, 258, 0x01020304, 0x0807060504030201, 1 << 63, 1<<63 - 1, math.MaxUint64, 0xFF00FF00FF00FF00}
	r := rand.New(rand.NewSource(1))
	for range 200 {
		l = append(l, r.Uint64())
	}
	return l
}

// counts are numbers of bytes that may not be put or read.
func counts() []int {
	return []int{0, -1, -2, -8, 9, 10, 16, 64, 1 << 31, math.MaxInt, math.MinInt}
}

// P1.1
func TestPutAndHighGiveTheLowestBytes(t *testing.T) {
	for _, v := range numbers() {
		low, high := make([]byte, 8), make([]byte, 8)
		binary.LittleEndian.PutUint64(low, v)
		binary.BigEndian.PutUint64(high, v)
		for n := 1; n <= 8; n++ {
			if got := word.Put(n, v); !bytes.Equal(got, low[:n]) {
				t.Errorf("Put(%d, %x) is % x, not % x", n, v, got, low[:n])
			}
			if got := word.High(n, v); !bytes.Equal(got, high[8-n:]) {
				t.Errorf("High(%d, %x) is % x, not % x", n, v, got, high[8-n:])
			}
		}
	}
}

// P1.1, the example
func TestPutAndHighOfTheExample(t *testing.T) {
	if b := word.Put(2, 258); !bytes.Equal(b, []byte{2, 1}) {
		t.Errorf("Put % x", b)
	}
	if b := word.High(2, 258); !bytes.Equal(b, []byte{1, 2}) {
		t.Errorf("High % x", b)
	}
}

// P1.1, P1
func TestPutAndHighGiveNothingOutsideOneToEight(t *testing.T) {
	for _, n := range counts() {
		if b := word.Put(n, math.MaxUint64); len(b) != 0 {
			t.Errorf("Put(%d) is % x", n, b)
		}
		if b := word.High(n, math.MaxUint64); len(b) != 0 {
			t.Errorf("High(%d) is % x", n, b)
		}
	}
}

// P1.1
func TestGetReadsTheFirstEightBytes(t *testing.T) {
	rows := []struct {
		b []byte
		v uint64
	}{
		{nil, 0},
		{[]byte{}, 0},
		{[]byte{7}, 7},
		{[]byte{0, 1}, 256},
		{[]byte{2, 1}, 258},
		{[]byte{1, 2, 3, 4, 5, 6, 7}, 0x07060504030201},
		{[]byte{1, 2, 3, 4, 5, 6, 7, 8}, 0x0807060504030201},
		{[]byte{1, 2, 3, 4, 5, 6, 7, 8, 9}, 0x0807060504030201},
		{[]byte{0, 0, 0, 0, 0, 0, 0, 0, 255}, 0},
		{bytes.Repeat([]byte{255}, 100), math.MaxUint64},
		{[]byte{0, 0, 0, 0, 0, 0, 0, 0x80}, 1 << 63},
	}
	for _, r := range rows {
		if v := word.Get(r.b); v != r.v {
			t.Errorf("Get(% x) is %x, not %x", r.b, v, r.v)
		}
	}
}

// P1.2
func TestXorGoesByteByByte(t *testing.T) {
	rows := [][3][]byte{
		{nil, nil, nil},
		{nil, {1}, nil},
		{{1}, {}, nil},
		{{1, 2, 4}, {1, 1, 1}, {0, 3, 5}},
		{{1, 2, 4}, {255}, {254}},
		{{0x0F}, {0xF0, 1, 2}, {0xFF}},
	}
	for _, r := range rows {
		if got := word.Xor(r[0], r[1]); !bytes.Equal(got, r[2]) {
			t.Errorf("Xor(% x, % x) is % x, not % x", r[0], r[1], got, r[2])
		}
	}
	for x := range 256 {
		for y := range 256 {
			if got := word.Xor([]byte{byte(x)}, []byte{byte(y)}); len(got) != 1 || got[0] != byte(x^y) {
				t.Fatalf("Xor(%x, %x) is % x", x, y, got)
			}
		}
	}
}

// P1.2
func TestSameAsksForLengthAndEachByte(t *testing.T) {
	if !word.Same(nil, nil) || !word.Same(nil, []byte{}) || !word.Same([]byte{}, nil) {
		t.Error("empty lists are the same")
	}
	if word.Same(nil, []byte{0}) || word.Same([]byte{0}, nil) || word.Same([]byte{1}, []byte{1, 0}) || word.Same([]byte{1, 0}, []byte{1}) {
		t.Error("lists of unlike lengths are not the same")
	}
	for n := 1; n < 20; n++ {
		a, b := bytes.Repeat([]byte{5}, n), bytes.Repeat([]byte{5}, n)
		if !word.Same(a, b) {
			t.Error("the same bytes", n)
		}
		for k := range n {
			for bit := range 8 {
				b[k] ^= 1 << bit
				if word.Same(a, b) || word.Same(b, a) {
					t.Error("unlike at", k, bit)
				}
				b[k] ^= 1 << bit
			}
		}
	}
}

// P1.2
func TestPadCutsOrFillsUp(t *testing.T) {
	full := bytes.Repeat([]byte{9, 8, 7}, 30000)
	for _, b := range [][]byte{nil, {}, {1}, []byte("abc"), full} {
		for _, n := range []int{1, 2, 3, 4, 8, 256, 65535, 65536} {
			want := make([]byte, n)
			copy(want, b)
			if got := word.Pad(b, n); !bytes.Equal(got, want) {
				t.Errorf("Pad of %d bytes to %d has %d", len(b), n, len(got))
			}
		}
		for _, n := range []int{0, -1, math.MinInt, 65537, 65538, 1 << 20, 1 << 32, math.MaxInt} {
			if got := word.Pad(b, n); len(got) != 0 {
				t.Errorf("Pad of %d bytes to %d has %d", len(b), n, len(got))
			}
		}
	}
}

// P1.2
func TestZeroAsksEachByte(t *testing.T) {
	if !word.Zero(nil) || !word.Zero([]byte{}) {
		t.Error("no bytes")
	}
	for n := 1; n < 20; n++ {
		b := make([]byte, n)
		if !word.Zero(b) {
			t.Error("noughts", n)
		}
		for k := range n {
			for bit := range 8 {
				b[k] = 1 << bit
				if word.Zero(b) {
					t.Error("not a nought at", k, bit)
				}
			}
			b[k] = 0
		}
	}
}

// state is what a row tells of itself.
type state struct {
	rest int
	err  api.Errno
}

func stateOf(r *word.Row) state { return state{r.Rest(), r.Err()} }

// P1.3
func TestRowReadsFieldsInOrder(t *testing.T) {
	r := word.Of([]byte{1, 0, 9, 8, 7, 6, 5, 4, 3, 2, 1, 0xAA, 0xBB})
	if got := stateOf(r); got != (state{13, api.OK}) {
		t.Error("at first", got)
	}
	if v := r.Num(2); v != 1 {
		t.Errorf("Num(2) is %x", v)
	}
	if v := r.Num(8); v != 0x0203040506070809 {
		t.Errorf("Num(8) is %x", v)
	}
	if b := r.Bytes(0); len(b) != 0 || stateOf(r) != (state{3, api.OK}) {
		t.Errorf("Bytes(0) is % x, then %v", b, stateOf(r))
	}
	if b := r.Bytes(2); !bytes.Equal(b, []byte{1, 0xAA}) {
		t.Errorf("Bytes(2) is % x", b)
	}
	if v := r.Num(1); v != 0xBB {
		t.Errorf("Num(1) is %x", v)
	}
	if got := stateOf(r); got != (state{0, api.OK}) {
		t.Error("at its end", got)
	}
	if b := r.Bytes(0); len(b) != 0 || r.Err() != api.OK {
		t.Error("Bytes(0) at its end", r.Err())
	}
}

// P1.3
func TestRowReadsNumbersOfEachWidth(t *testing.T) {
	b := []byte{1, 2, 3, 4, 5, 6, 7, 8, 9}
	for n := 1; n <= 8; n++ {
		r := word.Of(b)
		if v, want := r.Num(n), word.Get(b[:n]); v != want || stateOf(r) != (state{9 - n, api.OK}) {
			t.Errorf("Num(%d) is %x, not %x; then %v", n, v, want, stateOf(r))
		}
		r = word.Of(b[:n])
		if v := r.Num(n); v != word.Get(b[:n]) || stateOf(r) != (state{0, api.OK}) {
			t.Errorf("Num(%d) of just as many is %x; then %v", n, v, stateOf(r))
		}
		r = word.Of(b[:n-1])
		if v := r.Num(n); v != 0 || stateOf(r) != (state{0, api.ErrRange}) {
			t.Errorf("Num(%d) of one byte less is %x; then %v", n, v, stateOf(r))
		}
	}
}

// P1.3, P1: what may not be asked for is told ahead of what is not there.
func TestRowTellsErrArgFirst(t *testing.T) {
	for _, b := range [][]byte{nil, {}, {1, 2, 3}, make([]byte, 100)} {
		for _, n := range counts() {
			r := word.Of(b)
			if v := r.Num(n); v != 0 || stateOf(r) != (state{0, api.ErrArg}) {
				t.Errorf("Num(%d) of %d bytes is %x; then %v", n, len(b), v, stateOf(r))
			}
		}
		for _, n := range []int{-1, -8, math.MinInt} {
			r := word.Of(b)
			if v := r.Bytes(n); len(v) != 0 || stateOf(r) != (state{0, api.ErrArg}) {
				t.Errorf("Bytes(%d) of %d bytes is % x; then %v", n, len(b), v, stateOf(r))
			}
		}
	}
}

// P1.3
func TestRowTellsErrRangeBeyondItsEnd(t *testing.T) {
	for _, b := range [][]byte{nil, {}, {1, 2, 3}} {
		for _, n := range []int{len(b) + 1, len(b) + 2, 1 << 31, math.MaxInt} {
			r := word.Of(b)
			if v := r.Bytes(n); len(v) != 0 || stateOf(r) != (state{0, api.ErrRange}) {
				t.Errorf("Bytes(%d) of %d bytes is % x; then %v", n, len(b), v, stateOf(r))
			}
		}
		r := word.Of(b)
		if v := r.Bytes(len(b)); !bytes.Equal(v, b) || stateOf(r) != (state{0, api.OK}) {
			t.Errorf("Bytes of all is % x; then %v", v, stateOf(r))
		}
	}
}

// P1.3
func TestRowKeepsItsFirstError(t *testing.T) {
	fail := map[api.Errno]func(r *word.Row){
		api.ErrArg:   func(r *word.Row) { r.Num(0) },
		api.ErrRange: func(r *word.Row) { r.Bytes(100) },
	}
	for e, f := range fail {
		r := word.Of([]byte{1, 2, 3, 4, 5, 6, 7, 8, 9})
		r.Num(1)
		f(r)
		for _, n := range []int{1, 2, 0, -1, 9, 8, 100, 1} {
			if v, b := r.Num(n), r.Bytes(n); v != 0 || len(b) != 0 || stateOf(r) != (state{0, e}) {
				t.Errorf("behind error %d: %x, % x, %v", e, v, b, stateOf(r))
			}
		}
		if b := r.Bytes(0); len(b) != 0 || r.Err() != e {
			t.Errorf("Bytes(0) behind error %d: % x", e, b)
		}
	}
}

// P1.3, P1
func TestNilRow(t *testing.T) {
	var r *word.Row
	for _, n := range []int{0, 1, 8, 9, -1, math.MaxInt, math.MinInt} {
		if v, b := r.Num(n), r.Bytes(n); v != 0 || len(b) != 0 || stateOf(r) != (state{0, api.ErrNil}) {
			t.Errorf("a nil row, %d: %x, % x, %v", n, v, b, stateOf(r))
		}
	}
}

// P1.3: a row and a plain reading of the same bytes tell the same, whatever is asked.
func TestRowAgainstAPlainReading(t *testing.T) {
	rnd := rand.New(rand.NewSource(2))
	for range 5000 {
		b := make([]byte, rnd.Intn(40))
		rnd.Read(b)
		r, at, err := word.Of(b), 0, api.OK
		for range 12 {
			n, num := rnd.Intn(13)-2, rnd.Intn(2) == 0
			var want []byte
			switch {
			case err != api.OK:
			case n < 0, num && (n == 0 || n > 8):
				err = api.ErrArg
			case n > len(b)-at:
				err = api.ErrRange
			default:
				want, at = b[at:at+n], at+n
			}
			if num {
				if v := r.Num(n); v != word.Get(want) {
					t.Fatalf("Num(%d) is %x, not that of % x", n, v, want)
				}
			} else if v := r.Bytes(n); !bytes.Equal(v, want) {
				t.Fatalf("Bytes(%d) is % x, not % x", n, v, want)
			}
			rest := len(b) - at
			if err != api.OK {
				rest = 0
			}
			if got := stateOf(r); got != (state{rest, err}) {
				t.Fatalf("%v, not %v", got, state{rest, err})
			}
		}
	}
}

// P1.4
func TestGetOfPutIsTheNumber(t *testing.T) {
	for _, v := range numbers() {
		for n := 1; n <= 8; n++ {
			want := v
			if n < 8 {
				want = v & (1<<(8*n) - 1)
			}
			if got := word.Get(word.Put(n, v)); got != want {
				t.Errorf("Get of Put(%d, %x) is %x, not %x", n, v, got, want)
			}
			if got := word.Of(word.Put(n, v)).Num(n); got != want {
				t.Errorf("Num of Put(%d, %x) is %x, not %x", n, v, got, want)
			}
		}
	}
}

// P1.4
func TestXorOfXorIsWhatWasThere(t *testing.T) {
	rnd := rand.New(rand.NewSource(3))
	for n := range 300 {
		a, b := make([]byte, n), make([]byte, n)
		rnd.Read(a)
		rnd.Read(b)
		if got := word.Xor(word.Xor(a, b), b); !bytes.Equal(got, a) {
			t.Errorf("Xor of Xor of %d bytes", n)
		}
	}
}

// Rule 4: nothing that is handed in is changed.
func TestArgumentsStayAsTheyAre(t *testing.T) {
	a, b := []byte{1, 2, 3, 4, 5, 6, 7, 8, 9}, []byte{9, 8, 7}
	word.Get(a)
	word.Xor(a, b)
	word.Same(a, b)
	word.Zero(a)
	word.Pad(a, 3)
	word.Pad(b, 9)
	for _, n := range []int{1, 2} {
		r := word.Of(a)
		r.Num(n)
		clear(r.Bytes(n))
	}
	if !bytes.Equal(a, []byte{1, 2, 3, 4, 5, 6, 7, 8, 9}) || !bytes.Equal(b, []byte{9, 8, 7}) {
		t.Error("changed", a, b)
	}
}

// Rule 4: what a caller writes into an answer, or appends to it, is seen nowhere else.
func TestAnswersAreTheirOwn(t *testing.T) {
	a := []byte{1, 2, 3, 4, 5, 6, 7, 8}
	for _, b := range [][]byte{word.Xor(a, make([]byte, 8)), word.Pad(a, 8), word.Pad(a, 4), word.Of(a).Bytes(8)} {
		clear(append(b[:1], 0, 0, 0))
		b[0] = 99
		if !bytes.Equal(a, []byte{1, 2, 3, 4, 5, 6, 7, 8}) {
			t.Fatal("an answer shares memory with an argument", a)
		}
	}
	word.Put(8, 1)[0] = 99
	word.High(8, 1)[7] = 99
	if word.Put(8, 1)[0] != 1 || word.High(8, 1)[7] != 1 {
		t.Error("Put, High")
	}
	r := word.Of(a)
	first := r.Bytes(2)
	_ = append(first, 99, 99, 99, 99)
	_ = append(r.Bytes(0), 99, 99)
	second := r.Bytes(2)
	if !bytes.Equal(second, []byte{3, 4}) {
		t.Error("what was appended to an answer is read", second)
	}
	clear(append(first, 99)[:2])
	if !bytes.Equal(second, []byte{3, 4}) || r.Num(4) != 0x08070605 {
		t.Error("two answers share memory", second)
	}
}

// Rule 5: a list that is handed in is not kept.
func TestRowReadsWhatItWasMadeOf(t *testing.T) {
	b := []byte{1, 2, 3, 4}
	r := word.Of(b)
	clear(b)
	if v := r.Num(2); v != 0x0201 {
		t.Errorf("Num is %x", v)
	}
	b[2] = 77
	if v := r.Bytes(2); !bytes.Equal(v, []byte{3, 4}) {
		t.Errorf("Bytes is % x", v)
	}
}

// Rule 6: rows of the same bytes know nothing of each other.
func TestRowsAreApart(t *testing.T) {
	b := []byte{1, 2, 3}
	one, other := word.Of(b), word.Of(b)
	one.Num(9)
	if other.Num(3) != 0x030201 || other.Err() != api.OK || one.Err() != api.ErrArg {
		t.Error("rows of the same bytes")
	}
}
