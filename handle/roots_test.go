package handle_test

import (
	"bytes"
	"encoding/binary"
	"math"
	"math/rand"
	"slices"
	"testing"

	"garderobe/api"
	"garderobe/handle"
)

// block is a head's block, by the words, whether it may be or not.
func block(r handle.Roots) []byte {
	b := binary.LittleEndian.AppendUint64(nil, r.Next)
	for _, h := range r.L {
		b = binary.LittleEndian.AppendUint64(b, uint64(h))
	}
	return append(b, make([]byte, 120)...)
}

// root tells whether a number may be a root, by the words.
func root(h handle.Handle) bool {
	return h == 0 || h>>56 < 64 && h>>48&255 < 16 && h&maxSerial > 0
}

// may tells whether a head may be, by the words.
func may(r handle.Roots) bool {
	for _, h := range r.L {
		if !root(h) {
			return false
		}
	}
	return r.Next >= 1 && r.Next <= maxSerial+1
}

// some is a head that may be, others of each seed.
func some(seed int64) handle.Roots {
	r := rand.New(rand.NewSource(seed))
	out := handle.Roots{Next: 1 + uint64(r.Int63n(maxSerial+1))}
	for k := range out.L {
		if r.Intn(3) > 0 {
			out.L[k] = number(handle.Place{Page: r.Intn(64), Slot: r.Intn(16), Serial: 1 + uint64(r.Int63n(maxSerial))})
		}
	}
	return out
}

// full is a head with the greatest of all.
func full() handle.Roots {
	r := handle.Roots{Next: maxSerial + 1}
	for k := range r.L {
		r.L[k] = number(handle.Place{Page: 63, Slot: 15, Serial: maxSerial})
	}
	return r
}

// noRoots are numbers that may be no root; but for some bits they are a handle.
func noRoots() []handle.Handle {
	return []handle.Handle{64<<56 | 1, 64 << 56, 16<<48 | 1, 16 << 48, 1 << 48, 63<<56 | 15<<48, 63<<56 | 16<<48 | 7, 128<<56 | 1, 1<<55 | 1, 255 << 56, 255 << 48, 1 << 63, math.MaxUint64, math.MaxUint64 - 1, math.MaxInt64}
}

// held fails unless Bytes and Parse say of a head what they should.
func held(t *testing.T, r handle.Roots) {
	t.Helper()
	b, e := r.Bytes()
	back, f := handle.Parse(block(r))
	if !may(r) {
		if r != (handle.Roots{}) && (e != api.ErrArg || len(b) != 0 || f != api.ErrForm || back != handle.Roots{}) {
			t.Errorf("%x may not be: Bytes says %x, error %d; Parse says %x, error %d", r, b, e, back, f)
		}
		return
	}
	if e != api.OK || !bytes.Equal(b, block(r)) {
		t.Errorf("%x: Bytes says %x, error %d", r, b, e)
	}
	if f != api.OK || back != r {
		t.Errorf("%x: Parse says %x, error %d", r, back, f)
	}
}

// noHead fails unless Parse says ErrForm.
func noHead(t *testing.T, what string, b []byte) {
	t.Helper()
	if r, e := handle.Parse(b); e != api.ErrForm || r != (handle.Roots{}) {
		t.Errorf("%s: %x, error %d", what, r, e)
	}
}

// P20.2: of a head of which all is 0 a block of noughts; of that the head whose Next is 1, without roots.
func TestNoughts(t *testing.T) {
	if b, e := (handle.Roots{}).Bytes(); e != api.OK || !bytes.Equal(b, make([]byte, 256)) {
		t.Errorf("Bytes of noughts: %x, error %d", b, e)
	}
	if r, e := handle.Parse(make([]byte, 256)); e != api.OK || r != (handle.Roots{Next: 1}) {
		t.Errorf("Parse of noughts: %x, error %d", r, e)
	}
	want := make([]byte, 256)
	want[0] = 1
	if b, e := (handle.Roots{Next: 1}).Bytes(); e != api.OK || !bytes.Equal(b, want) {
		t.Errorf("Bytes of the first head: %x, error %d", b, e)
	}
	if r, e := handle.Parse(want); e != api.OK || r != (handle.Roots{Next: 1}) {
		t.Errorf("Parse of the first head: %x, error %d", r, e)
	}
}

// P20.2: the next serial below, at and beyond its ends; with roots and without, and with such as may not be.
func TestNext(t *testing.T) {
	l := []uint64{0, maxSerial + 2, maxSerial + 3, 1<<56 + 1, 1 << 63, 1<<63 + 1, math.MaxInt64, math.MaxUint64 - 1, math.MaxUint64}
	l = append(l, 1, 2, 255, 256, maxSerial-1, maxSerial, maxSerial+1)
	for k := range 64 {
		l = append(l, 1<<k, 1<<k+1)
	}
	for _, next := range l {
		for _, r := range []handle.Roots{{}, some(1), full(), {L: [16]handle.Handle{5: 1}}, {L: [16]handle.Handle{15: 1 << 63}}} {
			r.Next = next
			held(t, r)
		}
	}
	for _, k := range []int{0, 7, 15} { // Next 0 may not be, if there are roots
		r := handle.Roots{}
		r.L[k] = 1
		if b, e := r.Bytes(); e != api.ErrArg || len(b) != 0 {
			t.Errorf("root %d, Next 0: %x, error %d", k, b, e)
		}
		noHead(t, "a root, Next 0", block(r))
	}
}

// P20.2: each of the sixteen roots at its ends, none, and such as are nobody's.
func TestRoots(t *testing.T) {
	if len(handle.Roots{}.L) != 16 {
		t.Fatal("roots", len(handle.Roots{}.L))
	}
	var handles []handle.Handle
	for _, page := range []int{0, 1, 62, 63} {
		for _, slot := range []int{0, 1, 14, 15} {
			for _, serial := range []uint64{1, 2, maxSerial - 1, maxSerial} {
				handles = append(handles, number(handle.Place{Page: page, Slot: slot, Serial: serial}))
			}
		}
	}
	for k := range 16 {
		for _, base := range []handle.Roots{{Next: 1}, some(2), full()} {
			for _, h := range slices.Concat(handles, noRoots(), []handle.Handle{0}) {
				r := base
				r.L[k] = h
				held(t, r)
			}
		}
	}
	for _, h := range noRoots() {
		if root(h) {
			t.Fatalf("the test's own number %x", uint64(h))
		}
	}
}

// P20.2: where each number stands.
func TestPlacesInTheBlock(t *testing.T) {
	r := handle.Roots{Next: 0x060504030201}
	for k := range r.L {
		r.L[k] = handle.Handle(uint64(k)<<56 | uint64(15-k)<<48 | 0x0A0000000000 | uint64(k+1))
	}
	b, e := r.Bytes()
	if e != api.OK || len(b) != 256 || !bytes.Equal(b[:8], []byte{1, 2, 3, 4, 5, 6, 0, 0}) {
		t.Fatalf("%x, error %d", b, e)
	}
	for k := range 16 {
		if got := b[8+8*k : 16+8*k]; !bytes.Equal(got, []byte{byte(k + 1), 0, 0, 0, 0, 10, byte(15 - k), byte(k)}) {
			t.Errorf("root %d: %x", k, got)
		}
	}
	if !bytes.Equal(b[136:], make([]byte, 120)) {
		t.Errorf("behind the roots: %x", b[136:])
	}
}

// P20.2, P20.3: heads of any kind, and back.
func TestThereAndBack(t *testing.T) {
	for seed := range 500 {
		held(t, some(int64(seed)))
	}
	held(t, full())
}

// P20.2: a block has 256 bytes, of noughts, too.
func TestParseLength(t *testing.T) {
	for _, r := range []handle.Roots{{}, {Next: 1}, some(3), full()} {
		long := append(block(r), make([]byte, 300)...)
		for n := range long {
			if n != 256 {
				noHead(t, "a block that is cut, or goes on", long[:n])
				noHead(t, "a block that is cut, or goes on", long[:n:n])
			}
		}
		noHead(t, "two blocks", append(block(r), block(r)...))
	}
	noHead(t, "nil", nil)
	noHead(t, "no bytes", []byte{})
	noHead(t, "65536 noughts", make([]byte, 65536))
}

// parsed fails unless Parse says of 256 bytes what the words ask.
func parsed(t *testing.T, what string, b []byte) {
	t.Helper()
	want := handle.Roots{Next: binary.LittleEndian.Uint64(b)}
	for k := range want.L {
		want.L[k] = handle.Handle(binary.LittleEndian.Uint64(b[8+8*k:]))
	}
	ok := may(want) && bytes.Equal(b, block(want))
	if bytes.Equal(b, make([]byte, 256)) {
		want, ok = handle.Roots{Next: 1}, true
	}
	r, e := handle.Parse(b)
	if ok && (e != api.OK || r != want) || !ok && (e != api.ErrForm || r != handle.Roots{}) {
		t.Fatalf("%s, %x: %x, error %d", what, b, r, e)
	}
}

// P20.2: one byte turned at each place, into each other byte.
func TestParseTurned(t *testing.T) {
	for _, r := range []handle.Roots{{}, {Next: 1}, some(4), some(5), full()} {
		b := block(r)
		for at := range b {
			for by := 1; by < 256; by++ {
				b[at] ^= byte(by)
				parsed(t, "a block with another byte", b)
				if at >= 136 {
					noHead(t, "a block with a byte behind the roots", b)
				}
				b[at] ^= byte(by)
			}
		}
	}
}

// P20.2: bytes of any kind.
func TestParseAnything(t *testing.T) {
	r := rand.New(rand.NewSource(6))
	for range 5000 {
		b := block(some(r.Int63()))
		for range r.Intn(4) {
			b[r.Intn(256)] = byte(r.Intn(256))
		}
		if r.Intn(10) == 0 {
			clear(b)
			r.Read(b[:r.Intn(257)])
		}
		parsed(t, "bytes of any kind", b)
	}
}

// Rules 3 to 5: what is handed in is neither changed nor kept, and answers share nothing.
func TestCopies(t *testing.T) {
	r := some(7)
	a, _ := r.Bytes()
	b, _ := r.Bytes()
	clear(a[:cap(a)])
	if !bytes.Equal(b, block(r)) || r != some(7) {
		t.Error("Bytes shares its answers, or changed its head")
	}
	room := append(block(r), 1, 2, 3, 4)
	was := slices.Clone(room)
	x, _ := handle.Parse(room[:256])
	if !bytes.Equal(room, was) {
		t.Error("Parse changed its block")
	}
	clear(room)
	y, _ := handle.Parse(block(r))
	y.L[3] = 0
	if x != r {
		t.Error("Parse keeps its block, or shares its answers")
	}
	if z, _ := handle.Parse(make([]byte, 256)); z != (handle.Roots{Next: 1}) {
		t.Error("Parse of noughts answers otherwise the second time", z)
	}
}

// Rule 6: what a call answers hangs on its arguments alone.
func TestAgain(t *testing.T) {
	for range 3 {
		TestExample(t)
		TestNoughts(t)
		TestPlacesInTheBlock(t)
	}
}
