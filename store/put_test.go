package store_test

import (
	"bytes"
	"math"
	"slices"
	"testing"

	"garderobe/api"
	"garderobe/nvm"
	"garderobe/store"
)

// P15.4: each block is put where it stands, and nothing else is stored.
func TestPut(t *testing.T) {
	for _, p := range plans() {
		s := begun(p, 10)
		b := s.base(t)
		image := s.image()
		var acts []change
		for block := range s.total() {
			data := text(uint64(block), 256)
			if e := store.Put(b, block, data); e != api.OK {
				t.Error(e)
			}
			acts = append(acts, puts(block, data)...)
		}
		lasts, _ := done(image, acts)
		if !slices.Equal(b.D.Acts(), told(acts)) || !bytes.Equal(b.D.Image(), lasts) {
			t.Errorf("%v: acts %v", p, b.D.Acts())
		}
		b.D.Fence()
		_, now := done(image, acts)
		if !bytes.Equal(b.D.Image(), now) || b.D.Pending() != 0 || b.T.Read() != s.reg() {
			t.Errorf("%v: something else was stored", p)
		}
	}
}

// P15.4: what is no block of the device has no place.
func TestPutBeyond(t *testing.T) {
	for _, p := range plans() {
		s := begun(p, 10)
		b := s.base(t)
		for _, block := range append(beyond(s.total()), 1<<16-1) {
			if e := store.Put(b, block, text(1, 256)); e != api.ErrRange {
				t.Errorf("Put of %d: error %d", block, e)
			}
		}
		idle(t, "Put", b, s)
	}
}

// P15.4: the device's errors; at each act the power may go.
func TestPutDown(t *testing.T) {
	s := begun(plan{20, 4}, 10)
	for act := 1; act <= 3; act++ {
		for pick := range 2 {
			b := s.base(t)
			b.D.Arm(act, byte(pick))
			data := text(1, 256)
			e, want := store.Put(b, 9, data), api.ErrDown
			all := puts(9, data)
			if act == 3 {
				want = api.OK
			}
			if e != want || !slices.Equal(b.D.Acts(), told(all[:act-1])) {
				t.Errorf("act %d: error %d, %v", act, e, b.D.Acts())
			}
		}
	}
	b := s.base(t)
	b.D.Crash()
	for _, block := range []int{0, 5, -1, s.total(), math.MaxInt} {
		if e := store.Put(b, block, text(1, 256)); e != api.ErrDown {
			t.Errorf("Put of %d, off: error %d", block, e)
		}
	}
	for _, block := range []int{0, 5, -1, math.MaxInt} {
		if e := store.Put(store.Base{}, block, text(1, 256)); e != api.ErrNil {
			t.Errorf("Put of %d, without a device: error %d", block, e)
		}
	}
}

// P1: other bytes than a block's: as the device says of them.
func TestPutOther(t *testing.T) {
	s := begun(plan{20, 4}, 10)
	b := s.base(t)
	if e := store.Put(b, s.total()-1, text(1, 257)); e != api.ErrRange {
		t.Error("too long", e)
	}
	idle(t, "Put", b, s)
	if e := store.Put(b, 3, text(1, 9)); e != api.OK {
		t.Error("short", e)
	}
	if e := store.Put(b, 3, nil); e != api.OK {
		t.Error("none", e)
	}
	if want := append(told(puts(3, text(1, 9))), told(puts(3, nil))...); !slices.Equal(b.D.Acts(), want) {
		t.Error(b.D.Acts())
	}
}

// P15.4, rules 4 and 5: the bytes are neither changed nor kept.
func TestPutHandedIn(t *testing.T) {
	s := begun(plan{20, 4}, 10)
	b := s.base(t)
	data := text(1, 256)
	store.Put(b, 9, data)
	if !bytes.Equal(data, text(1, 256)) {
		t.Error("changed")
	}
	clear(data)
	if got, _ := b.D.Load(256*9, 256); !bytes.Equal(got, text(1, 256)) {
		t.Error("kept")
	}
}

// scrubs are the acts of a Scrub.
func (s state) scrubs(n int) []change {
	return append(puts(s.logAt(0), make([]byte, 256*n)), change{Act: nvm.Act{Kind: nvm.Fence}})
}

// P15.4: so many blocks of the log have noughts then, for good, and nothing else is stored.
func TestScrub(t *testing.T) {
	for _, p := range plans() {
		for n := range p.tx + 2 {
			s := begun(p, 10)
			b := s.base(t)
			b.D.Tamper(256*s.logAt(0), text(1, 256*(1+p.tx)))
			image := b.D.Image()
			if e := store.Scrub(b, n); e != api.OK {
				t.Error(e)
			}
			want, _ := done(image, s.scrubs(n))
			if !slices.Equal(b.D.Acts(), told(s.scrubs(n))) || !bytes.Equal(b.D.Image(), want) || b.D.Pending() != 0 || b.T.Read() != s.reg() {
				t.Errorf("%v, %d: %v", p, n, b.D.Acts())
			}
		}
	}
}

// P15.4: the log has no such blocks.
func TestScrubBeyond(t *testing.T) {
	for _, p := range plans() {
		s := begun(p, 10)
		b := s.base(t)
		for _, n := range []int{math.MinInt, math.MinInt / 256, -1 << 32, -2, -1, p.tx + 2, p.tx + 3, 1 << 16, 1 << 56, 1 << 62, math.MaxInt} {
			if e := store.Scrub(b, n); e != api.ErrRange {
				t.Errorf("%v, %d: error %d", p, n, e)
			}
		}
		b.G = api.Geo{}
		for n := -1; n < 3; n++ {
			if e := store.Scrub(b, n); e != api.ErrRange {
				t.Errorf("no geometry, %d: error %d", n, e)
			}
		}
		idle(t, "Scrub", b, s)
		b.G, b.D = p.geo(), nvm.New(4*(s.total()+9))
		if e := store.Scrub(b, p.tx+2); e != api.ErrRange {
			t.Errorf("%v, more than the log has: error %d", p, e)
		}
		b.D = nvm.New(4*s.total() - 1)
		if e := store.Scrub(b, p.tx+1); e != api.ErrRange {
			t.Errorf("%v, a device that is too short: error %d", p, e)
		}
	}
}

// P15.4: the device's errors; at each act the power may go.
func TestScrubDown(t *testing.T) {
	s := begun(plan{20, 4}, 10)
	for act := 1; act <= 4; act++ {
		for pick := range 2 {
			b := s.base(t)
			b.D.Tamper(256*s.logAt(0), text(1, 256*5))
			image := b.D.Image()
			b.D.Arm(act, byte(pick))
			e, want := store.Scrub(b, 3), api.ErrDown
			if act == 4 {
				want = api.OK
			}
			lasts, now := done(image, s.scrubs(3)[:act-1])
			if pick == 1 {
				lasts = now
			}
			if e != want || !slices.Equal(b.D.Acts(), told(s.scrubs(3)[:act-1])) || !bytes.Equal(b.D.Image(), lasts) {
				t.Errorf("act %d: error %d, %v", act, e, b.D.Acts())
			}
		}
	}
	b := s.base(t)
	b.D.Crash()
	for _, n := range []int{-1, 0, 1, 5, 6} {
		if e := store.Scrub(b, n); e != api.ErrDown {
			t.Errorf("%d, off: error %d", n, e)
		}
		if e := store.Scrub(store.Base{}, n); e != api.ErrNil {
			t.Errorf("%d, without a device: error %d", n, e)
		}
		if e := store.Scrub(store.Base{G: s.geo()}, n); e != api.ErrNil {
			t.Errorf("%d, without a device, of a geometry: error %d", n, e)
		}
	}
}
