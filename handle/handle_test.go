package handle_test

import (
	"math"
	"math/rand"
	"testing"

	"garderobe/api"
	"garderobe/handle"
)

const maxSerial = 281474976710655 // 2^48 - 1

// far are numbers that are no page and no slot; the lowest bits of some are those of one that is.
func far() []int {
	return []int{math.MinInt, math.MinInt + 1, math.MinInt + 63, math.MinInt32, -1 << 48, -1<<32 + 1, -1 << 32, -65536, -65535, -256, -255, -64, -63, -16, -15, -2, -1,
		64, 65, 127, 128, 192, 255, 256, 257, 256 + 63, 1 << 16, 1<<16 + 1, 1 << 31, 1 << 32, 1<<32 + 1, 1 << 48, 1 << 56, 1<<56 + 1, 1 << 60, 1<<62 + 1, math.MaxInt - 1, math.MaxInt}
}

// serials are serials that may be: the ends, and each bit alone.
func serials() []uint64 {
	l := []uint64{1, 2, 3, 255, 256, maxSerial - 1, maxSerial}
	for k := range 48 {
		l = append(l, 1<<k, maxSerial-1<<k|1)
	}
	return l
}

// noSerials are serials that may not be; the lowest bits of some are those of one that may.
func noSerials() []uint64 {
	l := []uint64{0, maxSerial + 1, maxSerial + 2, math.MaxInt64, math.MaxUint64 - 1, math.MaxUint64}
	for k := 48; k < 64; k++ {
		l = append(l, 1<<k, 1<<k+1, 1<<k|maxSerial)
	}
	return l
}

// number is a place's handle, by the words: the page in the 8 highest bits, the slot in the next 8, the serial.
func number(p handle.Place) handle.Handle {
	return handle.Handle(uint64(p.Page)*(1<<56) + uint64(p.Slot)*(1<<48) + p.Serial)
}

// none fails unless there is no handle of a place.
func none(t *testing.T, p handle.Place) {
	t.Helper()
	if h, e := handle.Make(p); h != 0 || e != api.ErrArg {
		t.Errorf("Make of %v: %016x, error %d", p, uint64(h), e)
	}
}

// nobodys fails unless a number is nobody's.
func nobodys(t *testing.T, n uint64) {
	t.Helper()
	if p, ok := handle.Handle(n).Place(); ok || p != (handle.Place{}) {
		t.Errorf("Place of %016x: %v, %v", n, p, ok)
	}
}

// there fails unless a place and its handle lead to one another.
func there(t *testing.T, p handle.Place) {
	t.Helper()
	h, e := handle.Make(p)
	if h != number(p) || e != api.OK {
		t.Errorf("Make of %v: %016x, error %d", p, uint64(h), e)
	}
	if back, ok := number(p).Place(); !ok || back != p {
		t.Errorf("Place of %016x: %v, %v", uint64(number(p)), back, ok)
	}
}

func TestExample(t *testing.T) {
	p := handle.Place{Page: 1, Slot: 2, Serial: 3}
	if h, e := handle.Make(p); h != 0x0102000000000003 || e != api.OK {
		t.Errorf("%016x, error %d", uint64(h), e)
	}
	if back, ok := handle.Handle(0x0102000000000003).Place(); back != p || !ok {
		t.Error("Place", back, ok)
	}
}

// P20.1, P20.3: each page and each slot, with serials at their ends, and each bit of one alone.
func TestPlaces(t *testing.T) {
	for page := range 64 {
		for slot := range 16 {
			for _, serial := range serials() {
				there(t, handle.Place{Page: page, Slot: slot, Serial: serial})
			}
		}
	}
}

// P20.1: pages, slots and serials below and beyond their ends, alone and together.
func TestNoPlaces(t *testing.T) {
	none(t, handle.Place{})
	for _, serial := range append(serials(), noSerials()...) {
		for _, page := range far() {
			for _, slot := range append(far(), 0, 1, 15, 16, 17) {
				none(t, handle.Place{Page: page, Slot: slot, Serial: serial})
			}
		}
		for _, slot := range append(far(), 16, 17, 31, 32) {
			for _, page := range []int{0, 1, 62, 63} {
				none(t, handle.Place{Page: page, Slot: slot, Serial: serial})
			}
		}
	}
	for _, serial := range noSerials() {
		for _, page := range []int{0, 1, 62, 63} {
			for _, slot := range []int{0, 1, 14, 15} {
				none(t, handle.Place{Page: page, Slot: slot, Serial: serial})
			}
		}
	}
	for k := range 200 { // all that come next
		none(t, handle.Place{Page: 64 + k, Slot: 3, Serial: 5})
		none(t, handle.Place{Page: -1 - k, Slot: 3, Serial: 5})
		none(t, handle.Place{Page: 3, Slot: 16 + k, Serial: 5})
		none(t, handle.Place{Page: 3, Slot: -1 - k, Serial: 5})
	}
}

// P20.1: numbers with each page's and each slot's bits; all that are not a handle's are nobody's.
func TestNumbers(t *testing.T) {
	for page := range uint64(256) {
		for slot := range uint64(256) {
			for _, serial := range []uint64{0, 1, 77, maxSerial} {
				n := page<<56 | slot<<48 | serial
				if page < 64 && slot < 16 && serial > 0 {
					there(t, handle.Place{Page: int(page), Slot: int(slot), Serial: serial})
				} else {
					nobodys(t, n)
				}
			}
		}
	}
	for _, n := range []uint64{0, math.MaxUint64, math.MaxUint64 - 1, 1 << 63, 1<<63 + 1, 1 << 48, 1 << 56, 1 << 62, 1<<62 + 1, 16 << 48, 16<<48 + 1, 63<<56 | 15<<48, 64<<56 | 1} {
		nobodys(t, n)
	}
}

// P20.1, P20.3: numbers of any kind are a handle's just if Make gives them back.
func TestAnyNumbers(t *testing.T) {
	r := rand.New(rand.NewSource(1))
	handles := 0
	for range 200000 {
		h := handle.Handle(r.Uint64() >> uint(r.Intn(64)))
		p, ok := h.Place()
		if want := h>>56 < 64 && h>>48&255 < 16 && h&maxSerial > 0; ok != want {
			t.Fatalf("Place of %016x: %v, %v", uint64(h), p, ok)
		}
		if !ok {
			nobodys(t, uint64(h))
			continue
		}
		handles++
		if back, e := handle.Make(p); back != h || e != api.OK {
			t.Fatalf("%016x leads to %v, that to %016x, error %d", uint64(h), p, uint64(back), e)
		}
	}
	if handles < 1000 {
		t.Error("the test's own numbers")
	}
}

// P1: places of any kind: those that may be have a handle, and no other ones.
func TestAnyPlaces(t *testing.T) {
	r := rand.New(rand.NewSource(2))
	for range 100000 {
		p := handle.Place{Page: int(r.Uint64()) >> uint(r.Intn(64)), Slot: int(r.Uint64()) >> uint(r.Intn(64)), Serial: r.Uint64() >> uint(r.Intn(64))}
		if p.Page >= 0 && p.Page < 64 && p.Slot >= 0 && p.Slot < 16 && p.Serial > 0 && p.Serial <= maxSerial {
			there(t, p)
		} else {
			none(t, p)
		}
	}
}

// P20.3: unlike places have unlike handles.
func TestUnlike(t *testing.T) {
	whose := map[handle.Handle]handle.Place{}
	for page := range 64 {
		for slot := range 16 {
			for _, serial := range []uint64{1, 2, 16, 64, 256, 1 << 40, 1 << 47, maxSerial - 1, maxSerial} {
				p := handle.Place{Page: page, Slot: slot, Serial: serial}
				h, e := handle.Make(p)
				if other, ok := whose[h]; ok || e != api.OK {
					t.Fatalf("%v and %v: %016x, error %d", p, other, uint64(h), e)
				}
				whose[h] = p
			}
		}
	}
}
