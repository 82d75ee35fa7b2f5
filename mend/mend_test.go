package mend_test

import (
	"bytes"
	"math"
	"slices"
	"testing"

	"garderobe/api"
	"garderobe/book"
	"garderobe/geom"
	"garderobe/mend"
	"garderobe/nvm"
	"garderobe/seal"
	"garderobe/store"
	"garderobe/trust"
)

// Example 1.
func TestExample(t *testing.T) {
	b := begin(t).base(api.Geo{Pages: 20, Tx: 4}, api.Reg{})
	if e := mend.Format(b); e != api.OK || b.T.Read().Count != 2 {
		t.Error("Format", e, b.T.Read().Count)
	}
	if x, e := mend.Open(b, true); e != api.OK || x == nil || b.T.Read().Count != 3 {
		t.Error("Open", e, b.T.Read().Count)
	}
}

// The chapter's numbers of what is found.
func TestKinds(t *testing.T) {
	if l := []int{mend.Whole, mend.Redone, mend.Wrong}; !slices.Equal(l, []int{1, 2, 3}) {
		t.Error(l)
	}
}

// all fails if not all calls answer e of a base.
func all(t *testing.T, what string, b store.Base, e api.Errno) {
	t.Helper()
	if kind, got := mend.Look(b); got != e || kind != 0 {
		t.Errorf("%s: Look %d, error %d, not %d", what, kind, got, e)
	}
	if got := mend.Format(b); got != e {
		t.Errorf("%s: Format: error %d, not %d", what, got, e)
	}
	for _, write := range []bool{false, true} {
		if x, got := mend.Open(b, write); got != e || x != nil {
			t.Errorf("%s: Open: error %d, not %d; %v", what, got, e, x)
		}
	}
}

// P16.1 to P16.3: one of the four is nil, whatever else may not be.
func TestNil(t *testing.T) {
	w := begin(t).filled(small(), 10)
	for name, lose := range map[string]func(*store.Base){
		"device": func(b *store.Base) { b.D = nil }, "register": func(b *store.Base) { b.T = nil },
		"sealer": func(b *store.Base) { b.S = nil }, "book": func(b *store.Base) { b.B = nil },
		"all": func(b *store.Base) { *b = store.Base{} },
	} {
		b := w.there()
		lose(&b)
		all(t, "without "+name, b, api.ErrNil)
		b.G = api.Geo{}
		all(t, "of no geometry, without "+name, b, api.ErrNil)
	}
}

// P16.1 to P16.3: a geometry that may not be, a device of too few or too many bytes; ahead of all that is asked of the
// register and of the device.
func TestArg(t *testing.T) {
	o := begin(t)
	for _, g := range plans() {
		for _, count := range []uint64{10, math.MaxUint64} {
			w := o.filled(g, count)
			b := w.there()
			for _, bad := range geos(g) {
				other := b
				other.G = bad
				all(t, "another geometry", other, api.ErrArg)
			}
			n := 4 * geom.Total(g)
			for _, lines := range []int{0, 1, n - 4, n - 1, n + 1, n + 4, 1024} {
				other := b
				other.D = nvm.New(lines)
				all(t, "another device", other, api.ErrArg)
				other.D.Crash()
				all(t, "another device that is off", other, api.ErrArg)
			}
			other := b
			other.D = &nvm.Device{}
			all(t, "an unmade device", other, api.ErrArg)
			other.G = api.Geo{}
			all(t, "an unmade device of no geometry", other, api.ErrArg)
			alike(t, "refused calls", b, w.there())
		}
	}
}

// P16.1 to P16.3: the device's error, while the power is off.
func TestOff(t *testing.T) {
	w := begin(t).filled(small(), 10)
	b, off := w.there(), w.there()
	b.D.Crash()
	off.D.Crash()
	all(t, "off", b, api.ErrDown)
	alike(t, "off", b, off)
	if len(b.S.Used()) != 0 {
		t.Error("sealed", b.S.Used())
	}
	b.D.On()
	opened(t, "on again", b, false, w)
}

// P16.2: a Format of whatever stands there, of registers that hold something, at all counts at which it goes.
func TestFormat(t *testing.T) {
	o := begin(t)
	for _, g := range plans() {
		for _, count := range []uint64{0, 1, 77, 1<<32 - 1, math.MaxUint64 - 3, math.MaxUint64 - 2} {
			old := o.filled(g, count)
			b, want := old.there(), old.there()
			b.D.Tamper(256*geom.LogAt(g, 0), text(1, 256*(1+g.Tx)))
			want.D.Tamper(256*geom.LogAt(g, 0), text(1, 256*(1+g.Tx)))
			w := o.blank(g, count+2)
			if e, f := mend.Format(b), w.formats(old.reg()).do(want); e != api.OK || f != api.OK {
				t.Fatalf("Format at %d: error %d", count, e)
			}
			alike(t, "Format", b, want)
			if !bytes.Equal(b.D.Image(), w.image()) || b.T.Read() != w.reg() {
				t.Errorf("Format at %d: something else lasts", count)
			}
			found(t, "Format", b, mend.Whole)
			if used := b.S.Used(); len(used) != geom.Sealed(g) || used[0].Epoch != count+2 || used[len(used)-1].Epoch != count+2 {
				t.Errorf("Format at %d: sealed %v", count, used)
			}
			opened(t, "Format", b, false, w)
		}
	}
}

// P16.2: too few counts are left; that is told ahead of the device's error.
func TestFormatExhausted(t *testing.T) {
	o := begin(t)
	for _, count := range []uint64{math.MaxUint64 - 1, math.MaxUint64} {
		w := o.filled(small(), count)
		b := w.there()
		if e := mend.Format(b); e != api.ErrExhausted {
			t.Errorf("at %d: error %d", count, e)
		}
		alike(t, "an exhausted Format", b, w.there())
		if len(b.S.Used()) != 0 {
			t.Error("sealed", b.S.Used())
		}
		b.D.Crash()
		if e := mend.Format(b); e != api.ErrExhausted {
			t.Errorf("at %d, off: error %d", count, e)
		}
	}
}

// P16.2: the power goes at each act of a Format, whichever words last; what Open finds then, and another Format.
func TestFormatDown(t *testing.T) {
	o := begin(t)
	g := small()
	acts := 1 + 2*geom.Leaves(g) + 1 + 3 + 1
	for _, old := range []truth{o.filled(g, 10), o.blank(g, 10)} {
		for act := 1; act <= acts+1; act++ {
			for _, p := range picks() {
				formatDown(t, old, act, acts, p)
			}
		}
	}
}

// formatDown does a Format in which the power goes at an act.
func formatDown(t *testing.T, old truth, act, acts int, p []byte) {
	t.Helper()
	b, want := old.there(), old.there()
	b.D.Arm(act, p...)
	want.D.Arm(act, p...)
	w := old.blank(old.g, old.count+2)
	e, f := mend.Format(b), w.formats(old.reg()).do(want)
	if e != f || (e == api.ErrDown) != (act <= acts) {
		t.Errorf("act %d: error %d, not %d", act, e, f)
	}
	alike(t, "Format", b, want)
	if n := len(b.S.Used()); n != 0 && n != geom.Sealed(old.g) || (n == 0) != (act == 1) {
		t.Errorf("act %d: %d blocks were sealed", act, n)
	}
	b.D.On()
	switch image := b.D.Image(); {
	case act > acts:
		found(t, "a whole Format", b, mend.Whole)
		opened(t, "a whole Format", b, true, w)
	case bytes.Equal(image[:256*geom.Leaves(old.g)], old.image()[:256*geom.Leaves(old.g)]):
		found(t, "a Format that left all as it was", b, mend.Whole)
		opened(t, "a Format that left all as it was", b, true, old)
	default:
		found(t, "a torn Format", b, mend.Wrong)
		shut(t, "a torn Format", b, false, api.ErrTampered)
		shut(t, "a torn Format", b, true, api.ErrTampered)
	}
	again := b.T.Read().Count + 2
	if e := mend.Format(b); e != api.OK {
		t.Errorf("act %d: another Format: error %d", act, e)
	}
	opened(t, "another Format", b, true, old.blank(old.g, again))
	if _, twice := b.S.Twice(); twice {
		t.Error("twice")
	}
}

// P16.1, P16.3: what nobody formatted.
func TestNobodys(t *testing.T) {
	o := begin(t)
	for _, g := range plans() {
		for _, r := range []api.Reg{{}, {Count: 5}, {Count: 5, Root: api.Digest{1}}, {Count: math.MaxUint64}} {
			for _, image := range [][]byte{nil, text(3, 256*geom.Total(g))} {
				b := o.on(g, r, image)
				found(t, "nobody's", b, mend.Wrong)
				shut(t, "nobody's", b, false, api.ErrTampered)
				want := api.ErrTampered
				if r.Count == math.MaxUint64 {
					want = api.ErrExhausted
				}
				shut(t, "nobody's", b, true, want)
			}
		}
	}
}

// P16.1, P16.3: what is whole, at all counts, for reading and for writing.
func TestWhole(t *testing.T) {
	o := begin(t)
	for _, g := range plans() {
		for _, count := range []uint64{3, 1 << 40, math.MaxUint64 - 1, math.MaxUint64} {
			w := o.filled(g, count)
			for _, write := range []bool{false, true} {
				b, want := w.there(), w.there()
				b.D.Tamper(256*geom.LogAt(g, 0), text(1, 256*(1+g.Tx)))
				want.D.Tamper(256*geom.LogAt(g, 0), text(1, 256*(1+g.Tx)))
				found(t, "whole", b, mend.Whole)
				if write && count == math.MaxUint64 {
					shut(t, "whole, at the end", b, true, api.ErrExhausted)
					continue
				}
				x := opened(t, "whole", b, write, w)
				w.opens(write).do(want)
				alike(t, "Open", b, want)
				if !bytes.Equal(b.D.Image(), w.image()) || len(b.S.Used()) != 0 {
					t.Error("Open: something else lasts")
				}
				committable(t, x, b, write)
			}
		}
	}
}

// committable fails if a store can't be written as it should.
func committable(t *testing.T, x *store.Store, b store.Base, write bool) {
	t.Helper()
	want := api.OK
	switch {
	case !write:
		want = api.ErrReadOnly
	case b.T.Last():
		want = api.ErrExhausted
	}
	if e := x.Commit(entries(9, 0)...); e != want {
		t.Errorf("Commit: error %d, not %d", e, want)
	}
}

// P16.3: that the register is at its end is told ahead of the device's error, and of what is found; for reading it plays
// no part.
func TestOpenExhausted(t *testing.T) {
	w := begin(t).filled(small(), math.MaxUint64)
	b := w.there()
	b.D.Crash()
	shut(t, "off", b, true, api.ErrExhausted)
	shut(t, "off", b, false, api.ErrDown)
	b.D.On()
	b.D.Tamper(0, []byte{1})
	shut(t, "tampered", b, true, api.ErrExhausted)
	shut(t, "tampered", b, false, api.ErrTampered)
}

// P16.3: the power goes at each act of an Open, whichever words last: it is found as it was.
func TestOpenDown(t *testing.T) {
	o := begin(t)
	w := o.filled(small(), 10)
	for _, write := range []bool{false, true} {
		acts := 2*geom.Leaves(w.g) + 1 + 3
		if write {
			acts++
		}
		for act := 1; act <= acts+1; act++ {
			for _, p := range picks() {
				b, want := w.there(), w.there()
				b.D.Arm(act, p...)
				want.D.Arm(act, p...)
				x, e := mend.Open(b, write)
				if f := w.opens(write).do(want); e != f || (e == api.ErrDown) != (act <= acts) || (x == nil) != (act <= acts) {
					t.Errorf("act %d: error %d, not %d", act, e, f)
				}
				alike(t, "Open", b, want)
				b.D.On()
				found(t, "an Open that was cut off", b, mend.Whole)
				opened(t, "an Open that was cut off", b, !write, w)
			}
		}
	}
}

// turned is a base in which a byte of the device was turned.
func turned(b store.Base, at int) store.Base {
	b.D.Tamper(at, []byte{b.D.Image()[at] ^ 0x40})
	return b
}

// P16.1, P16.3, P16.6: a byte that others wrote, in each of the blocks: of the leaves it is told, of the log it is nothing.
func TestTurned(t *testing.T) {
	o := begin(t)
	for _, g := range plans() {
		w := o.filled(g, 10)
		for block := range geom.Total(g) {
			for _, k := range []int{0, 15, 255} {
				b := turned(w.there(), 256*block+k)
				if block < geom.Leaves(g) {
					found(t, "a leaf", b, mend.Wrong)
					shut(t, "a leaf", b, block%2 == 0, api.ErrTampered)
				} else {
					found(t, "the log", b, mend.Whole)
				}
			}
		}
		opened(t, "the log", turned(w.there(), 256*geom.Total(g)-1), true, w)
	}
}

// P16.1, P16.6: what stood there ahead of a Commit, with its own register and with the one of now; blocks changed about.
func TestPutBack(t *testing.T) {
	o := begin(t)
	w := o.filled(small(), 10)
	then := w.with(12, entries(1, 0, 2))
	b := then.on(w.g, then.reg(), w.image())
	found(t, "put back", b, mend.Wrong)
	shut(t, "put back", b, true, api.ErrTampered)
	found(t, "put back with its register", w.there(), mend.Whole)
	b = w.there()
	image := w.image()
	b.D.Tamper(256*geom.SealedAt(w.g, 0), image[256*geom.SealedAt(w.g, 1):256*geom.SealedAt(w.g, 2)])
	b.D.Tamper(256*geom.SealedAt(w.g, 1), image[256*geom.SealedAt(w.g, 0):256*geom.SealedAt(w.g, 1)])
	found(t, "changed about", b, mend.Wrong)
}

// P16.1: another geometry of as many blocks.
func TestOtherGeometry(t *testing.T) {
	o := begin(t)
	w := o.filled(api.Geo{Pages: 20, Tx: 4}, 10)
	b := w.there()
	b.G = api.Geo{Pages: 19, Tx: 5}
	if geom.Total(b.G) != geom.Total(w.g) {
		t.Fatal("not as many")
	}
	found(t, "another geometry", b, mend.Wrong)
	shut(t, "another geometry", b, true, api.ErrTampered)
}

// P16.1: a first block that is not the super of the geometry, though the root is that of the blocks, or that of the log's.
func TestOtherSuper(t *testing.T) {
	o := begin(t)
	w := o.filled(api.Geo{Pages: 20, Tx: 4}, 10)
	for _, first := range [][]byte{make([]byte, 256), o.filled(api.Geo{Pages: 19, Tx: 5}, 10).blocks()[0],
		o.filled(api.Geo{Pages: 20, Tx: 5}, 10).blocks()[0], append([]byte("GARDROBE\x01\x00\x14\x00\x04\x00"), bytes.Repeat([]byte{1}, 242)...)} {
		blocks := w.blocks()
		blocks[0] = first
		b := o.on(w.g, api.Reg{Count: 10, Root: o.rootOf(blocks)}, bytes.Join(blocks, nil))
		found(t, "another super", b, mend.Wrong)
		shut(t, "another super", b, true, api.ErrTampered)
		l := entries(1, 3)
		then := w.with(11, l).blocks()
		then[0] = first
		b = o.on(w.g, api.Reg{Count: 11, Root: o.rootOf(then)}, append(bytes.Join(blocks, nil), o.logOf(w.g, 11, l)...))
		found(t, "another super, and a log", b, mend.Wrong)
	}
	blocks := w.blocks()
	b := o.on(w.g, api.Reg{Count: 10, Root: o.rootOf(blocks)}, bytes.Join(blocks, nil))
	found(t, "its own", b, mend.Whole)
}

// Rule 5 and P16.1: what was opened has nothing in common with what is found later; a Look is of what stands there then.
func TestFoundAnew(t *testing.T) {
	w := begin(t).filled(small(), 10)
	b := w.there()
	x := opened(t, "open", b, true, w)
	b.D.Tamper(0, text(4, 256*geom.Leaves(w.g)))
	found(t, "written over", b, mend.Wrong)
	b.D.Tamper(0, w.image())
	found(t, "written back", b, mend.Whole)
	has(t, "written back", x, w)
}

// P1: registers, sealers and books that no call made.
func TestUnmade(t *testing.T) {
	w := begin(t).filled(small(), 10)
	b := w.there()
	b.T = &trust.Trust{}
	found(t, "an unmade register", b, mend.Wrong)
	if e := mend.Format(b); e != api.ErrNil || len(b.D.Acts()) != 0 || len(b.S.Used()) != 0 {
		t.Error("an unmade register: Format", e)
	}
	b = w.there()
	b.S = &seal.Sealer{}
	found(t, "an unmade sealer", b, mend.Whole)
	if e := mend.Format(b); e != api.ErrNil || !slices.Equal(b.D.Acts(), []nvm.Act{{Kind: nvm.Other}}) {
		t.Error("an unmade sealer: Format", e, b.D.Acts())
	}
	b = w.there()
	b.B = &book.Book{}
	found(t, "an unmade book", b, mend.Wrong)
}
