package ctr_test

import (
	"bytes"
	standard "crypto/aes"
	"encoding/binary"
	"math"
	"math/rand"
	"testing"

	"garderobe/aes"
	"garderobe/api"
	"garderobe/ctr"
	"garderobe/gf"
)

// place is what a counter is of.
type place struct {
	epoch uint64
	block uint32
	lane  uint16
}

func (p place) counter() [16]byte { return ctr.Counter(p.epoch, p.block, p.lane) }

// places are at all ends, and with each bit alone.
func places() []place {
	var l []place
	for _, e := range []uint64{0, 1, 255, 256, 1<<32 - 1, 1 << 32, math.MaxUint64 - 1, math.MaxUint64} {
		for _, b := range []uint32{0, 1, 255, 256, 1<<16 - 1, 1 << 16, math.MaxUint32 - 1, math.MaxUint32} {
			for _, n := range []uint16{0, 1, 15, 16, 255, 256, 4095, 4096, math.MaxUint16 - 1, math.MaxUint16} {
				l = append(l, place{e, b, n})
			}
		}
	}
	for bit := range 64 {
		l = append(l, place{1 << bit, 7, 7}, place{7, 1 << (bit % 32), 7}, place{7, 7, 1 << (bit % 16)})
	}
	return l
}

// bytes is what the counter is by the words.
func (p place) bytes() []byte {
	b := binary.BigEndian.AppendUint64(nil, p.epoch)
	b = binary.BigEndian.AppendUint32(b, p.block)
	return append(binary.BigEndian.AppendUint16(b, p.lane), 0, 0)
}

func key(n int) []byte {
	b := make([]byte, n)
	rand.New(rand.NewSource(int64(n))).Read(b)
	return b
}

func made(t *testing.T, n int) *aes.Cipher {
	t.Helper()
	c, e := aes.New(gf.NewBox(), key(n))
	if e != api.OK {
		t.Fatal(e)
	}
	return c
}

// stream is a stream by the words, with another AES.
func stream(t *testing.T, size int, epoch uint64, block uint32, n int) []byte {
	t.Helper()
	c, err := standard.NewCipher(key(size))
	if err != nil {
		t.Fatal(err)
	}
	var out []byte
	for lane := 0; len(out) < n; lane++ {
		var b [16]byte
		c.Encrypt(b[:], place{epoch, block, uint16(lane)}.bytes())
		out = append(out, b[:]...)
	}
	return out[:n]
}

// P6.1
func TestCounter(t *testing.T) {
	if got := ctr.Counter(1, 2, 3); got != [16]byte{7: 1, 11: 2, 13: 3} {
		t.Errorf("the example is % x", got)
	}
	for _, p := range places() {
		if got := p.counter(); !bytes.Equal(got[:], p.bytes()) {
			t.Errorf("%v is % x", p, got)
		}
	}
	if got := ctr.Counter(0x0102030405060708, 0x090A0B0C, 0x0D0E); got != [16]byte{1, 2, 3, 4, 5, 6, 7, 8, 9, 10, 11, 12, 13, 14} {
		t.Errorf("all bytes: % x", got)
	}
}

// P6.2
func TestUnlikePlacesHaveUnlikeCounters(t *testing.T) {
	seen := map[[16]byte]place{}
	for _, p := range places() {
		if q, ok := seen[p.counter()]; ok && q != p {
			t.Errorf("%v and %v have one counter", p, q)
		}
		seen[p.counter()] = p
	}
	all := map[[16]byte]int{}
	for lane := range 1 << 16 {
		all[ctr.Counter(3, 3, uint16(lane))]++
	}
	if len(all) != 1<<16 {
		t.Error("lanes have", len(all), "counters")
	}
}

// P6.1: streams of all lengths up to some lanes, and at the ends.
func TestStreamIsOfTheEncryptedCounters(t *testing.T) {
	lengths := []int{255, 256, 257, 4096, 1<<16 - 17, 1<<16 - 16, 1<<16 - 1, 1 << 16}
	for n := range 70 {
		lengths = append(lengths, n)
	}
	for _, size := range []int{16, 32} {
		c, want := made(t, size), stream(t, size, 1<<63+5, 1<<31+9, 1<<16)
		for _, n := range lengths {
			if got := ctr.Stream(c, 1<<63+5, 1<<31+9, n); !bytes.Equal(got, want[:n]) {
				t.Errorf("a key of %d bytes: a stream of %d bytes is another one", size, n)
			}
		}
	}
}

// P6.1: streams of all kinds of places.
func TestStreamsOfPlaces(t *testing.T) {
	c := made(t, 32)
	for _, p := range places() {
		if got := ctr.Stream(c, p.epoch, p.block, 40); !bytes.Equal(got, stream(t, 32, p.epoch, p.block, 40)) {
			t.Errorf("epoch %d, block %d: % x", p.epoch, p.block, got)
		}
	}
}

// P6.1, P1
func TestStreamsThatMayNotBe(t *testing.T) {
	c := made(t, 16)
	for _, n := range []int{0, -1, -16, -1 << 16, 1<<16 + 1, 1<<16 + 16, 1 << 20, 1 << 31, 1 << 32, 1<<32 + 5, math.MaxInt, math.MinInt} {
		if len(ctr.Stream(c, 1, 1, n)) != 0 || len(ctr.Stream(nil, 1, 1, n)) != 0 {
			t.Fatalf("there is a stream of %d bytes", n)
		}
	}
}

// P6.1, P6.3
func TestApplyIsByExclusiveOrAndBack(t *testing.T) {
	for _, size := range []int{16, 32} {
		c := made(t, size)
		for _, n := range []int{0, 1, 2, 15, 16, 17, 31, 32, 33, 100, 255, 256, 257, 1<<16 - 1, 1 << 16} {
			b, s := make([]byte, n), stream(t, size, 77, 5, n)
			rand.New(rand.NewSource(int64(n))).Read(b)
			got := ctr.Apply(c, 77, 5, b)
			if len(got) != n {
				t.Fatalf("%d bytes become %d", n, len(got))
			}
			for k := range got {
				if got[k] != b[k]^s[k] {
					t.Fatalf("byte %d of %d is %x", k, n, got[k])
				}
			}
			if !bytes.Equal(ctr.Apply(c, 77, 5, got), b) {
				t.Errorf("%d bytes don't come back", n)
			}
		}
	}
}

// P6.1: applied to noughts, what is left is the stream.
func TestApplyToNoughts(t *testing.T) {
	c := made(t, 16)
	for _, p := range places() {
		if got := ctr.Apply(c, p.epoch, p.block, make([]byte, 33)); !bytes.Equal(got, ctr.Stream(c, p.epoch, p.block, 33)) {
			t.Errorf("epoch %d, block %d: % x", p.epoch, p.block, got)
		}
	}
}

// P6.1, P1
func TestApplyToNothingAndToTooMuch(t *testing.T) {
	c := made(t, 32)
	for _, b := range [][]byte{nil, {}, make([]byte, 0, 64), make([]byte, 1<<16+1), make([]byte, 1<<16+16), make([]byte, 1<<20)} {
		if got := ctr.Apply(c, 1, 2, b); len(got) != 0 {
			t.Errorf("%d bytes become %d", len(b), len(got))
		}
		if got := ctr.Apply(nil, 1, 2, b); len(got) != 0 {
			t.Errorf("a nil cipher: %d bytes become %d", len(b), len(got))
		}
	}
}

// P6.1, P1: a nil cipher encrypts to noughts (layer 5), so that its stream has noughts only.
func TestNilCipher(t *testing.T) {
	for _, c := range []*aes.Cipher{nil, {}} {
		for _, n := range []int{1, 16, 40, 1 << 16} {
			if got := ctr.Stream(c, 3, 4, n); !bytes.Equal(got, make([]byte, n)) {
				t.Errorf("a stream of %d bytes is another one", n)
			}
			if b := key(n); !bytes.Equal(ctr.Apply(c, 3, 4, b), b) {
				t.Errorf("%d bytes become others", n)
			}
		}
	}
}

// Rules 4 and 5: a list is neither changed nor kept, and no answers share memory.
func TestListsAreNeitherChangedNorKept(t *testing.T) {
	c := made(t, 16)
	b := append(make([]byte, 0, 64), "some bytes that are longer than a lane"...)
	was := bytes.Clone(b[:cap(b)])
	got := ctr.Apply(c, 1, 2, b)
	kept := bytes.Clone(got)
	if !bytes.Equal(b[:cap(b)], was) {
		t.Fatal("the list was changed")
	}
	clear(b)
	if !bytes.Equal(got, kept) {
		t.Error("the answer is the list")
	}
	clear(got)
	s := ctr.Stream(c, 1, 2, 40)
	clear(s)
	if !bytes.Equal(ctr.Apply(c, 1, 2, was[:len(b)]), kept) || !bytes.Equal(ctr.Stream(c, 1, 2, 40), stream(t, 16, 1, 2, 40)) {
		t.Error("two answers share memory")
	}
	if !bytes.Equal(ctr.Stream(c, 1, 2, 40), append(ctr.Stream(c, 1, 2, 16), ctr.Stream(c, 1, 2, 40)[16:]...)) {
		t.Error("the same stream, shorter")
	}
}
