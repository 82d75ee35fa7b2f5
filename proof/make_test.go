package proof_test

import (
	"bytes"
	"math"
	"slices"
	"testing"

	"garderobe/api"
	"garderobe/book"
	"garderobe/geom"
	"garderobe/logf"
	"garderobe/mend"
	"garderobe/nvm"
	"garderobe/proof"
	"garderobe/store"
)

// Example 1.
func TestExample(t *testing.T) {
	b := formatted(t, api.Geo{Pages: 20, Tx: 4})
	p, e := proof.Make(b, 0)
	if e != api.OK {
		t.Fatal("Make", e)
	}
	if n, e := proof.Check(b.B, b.G, b.T.Read().Root, p); n != 2 || e != api.OK {
		t.Error("Check", n, e)
	}
}

// numbers are those of blocks that there are, and of some that there are not.
func numbers(g api.Geo) []int {
	n := sealed(g)
	return []int{0, n - 1, -1, -2, -32, -n, math.MinInt, n, n + 1, n + 31, n + 32, 1 << 16, 1 << 32, math.MaxInt}
}

// refused fails if Make of a base doesn't answer e, and nothing.
func refused(t *testing.T, what string, b store.Base, k int, e api.Errno) {
	t.Helper()
	if p, got := proof.Make(b, k); got != e || !none(p) {
		t.Errorf("%s: Make of %d: error %d, not %d; %v", what, k, got, e, p)
	}
}

// P33.1: a base that is nil in part, ahead of all else.
func TestMakeNil(t *testing.T) {
	b := formatted(t, small())
	l := []store.Base{b, b, b, b, {G: b.G}, {}}
	l[0].D, l[1].T, l[2].S, l[3].B = nil, nil, nil, nil
	for _, x := range l {
		for _, k := range numbers(b.G) {
			for _, g := range append(geos(), b.G, plans()[1]) {
				x.G = g
				refused(t, "nil in part", x, k, api.ErrNil)
			}
		}
		_, e := mend.Look(x)
		refused(t, "as Look", x, 0, e)
	}
	b.D.Crash()
	refused(t, "nil in part, off", l[3], 0, api.ErrNil)
}

// P33.1: a base that may not be, ahead of the number and of the device's error.
func TestMakeStrange(t *testing.T) {
	for _, g := range plans() {
		b := formatted(t, g)
		var l []store.Base
		for _, other := range append(geos(), api.Geo{Pages: g.Pages, Tx: g.Tx%api.MaxTx + 5}, api.Geo{Pages: g.Pages%api.MaxPages + 1, Tx: g.Tx}) {
			x := b
			x.G = other
			l = append(l, x)
		}
		n := 4 * geom.Total(g)
		for _, lines := range []int{0, 1, n - 4, n - 1, n + 1, n + 4, 1024} {
			x := b
			x.D = nvm.New(lines)
			l = append(l, x)
		}
		x := b
		x.D = &nvm.Device{}
		for _, x := range append(l, x) {
			for _, k := range numbers(g) {
				refused(t, "may not be", x, k, api.ErrArg)
			}
			x.D.Crash()
			refused(t, "may not be, off", x, 0, api.ErrArg)
			refused(t, "may not be, off", x, -1, api.ErrArg)
			x.D.On()
			if _, e := mend.Look(x); e != api.ErrArg {
				t.Error("Look", e)
			}
		}
	}
}

// P33.1: a number that is none, ahead of the device's error; the power is off.
func TestMakeRangeAndPower(t *testing.T) {
	for _, g := range plans() {
		b := formatted(t, g)
		for range 2 {
			was := seen(b)
			for _, k := range numbers(g)[2:] {
				refused(t, "a number", b, k, api.ErrRange)
			}
			still(t, "a refused Make", b, was)
			b.D.Crash()
		}
		texts := b.B.Len()
		for k := range sealed(g) {
			refused(t, "off", b, k, api.ErrDown)
		}
		if b.B.Len() != texts {
			t.Error("something was summed")
		}
		b.D.On()
		proves(t, b, 0)
	}
}

// stands fails if Make doesn't answer the proofs of what stands on a device, by the words.
func stands(t *testing.T, what string, b store.Base, image []byte) {
	t.Helper()
	for k := range sealed(b.G) {
		if p := proves(t, b, k); !alike(p, words(b.G, image, k)) {
			t.Errorf("%s: another proof of %d", what, k)
		}
	}
}

// P33.1: of each sealed block, behind a Format and behind Commits.
func TestMake(t *testing.T) {
	for _, g := range plans() {
		b := formatted(t, g)
		stands(t, "formatted", b, b.D.Image())
		b, x := made(t, g)
		was := seen(b)
		stands(t, "committed", b, b.D.Image())
		still(t, "Make", b, was)
		commit(t, x, logf.Entry{K: 1, Data: text(77, 256)}, logf.Entry{K: 2, Data: text(78, 256)})
		stands(t, "committed again", b, b.D.Image())
	}
}

// P33.1: the leaves as they stand, whatever the register holds, and whoever wrote into them; the log is no leaf.
func TestMakeAsItStands(t *testing.T) {
	for _, g := range plans() {
		b, _ := made(t, g)
		image := b.D.Image()
		for block := range leaves(g) {
			b.D.Tamper(256*block+block, []byte{image[256*block+block] ^ 1})
		}
		stands(t, "each leaf was turned", b, b.D.Image())
		b.D.Tamper(0, image)
		for block := range leaves(g) {
			b.D.Tamper(256*block+7, []byte{9, 9})
			k := block % sealed(g)
			if p := proves(t, b, k); !alike(p, words(g, b.D.Image(), k)) {
				t.Errorf("block %d was written into: another proof of %d", block, k)
			}
			b.D.Tamper(0, image)
		}
		b.D.Tamper(256*leaves(g), text(4, 256*(1+g.Tx)))
		stands(t, "the log was written into", b, image)
		b.T.Set(api.Reg{Count: 1 << 40, Root: api.Digest{1}})
		stands(t, "another register", b, image)
		junk := text(6, 256*geom.Total(g))
		stands(t, "bytes of any kind", on(g, api.Reg{}, junk), junk)
		stands(t, "noughts", on(g, api.Reg{}, nil), make([]byte, 256*geom.Total(g)))
	}
}

// P33.1: what is loaded is what was stored last, also if it doesn't last yet.
func TestMakePending(t *testing.T) {
	b, _ := made(t, small())
	image := b.D.Image()
	b.D.Store(256*geom.SealedAt(b.G, 1)+3, []byte{1, 2, 3})
	now := bytes.Clone(image)
	copy(now[256*geom.SealedAt(b.G, 1)+3:], []byte{1, 2, 3})
	stands(t, "stored", b, now)
	b.D.Crash()
	b.D.On()
	stands(t, "gone", b, image)
}

// P33.1: it is the base's book that sums; one that no call made sums to noughts.
func TestMakeBooks(t *testing.T) {
	b, _ := made(t, small())
	b.B = newBook()
	proves(t, b, 0)
	if n := b.B.Len(); n < leaves(b.G)+7 || n > leaves(b.G)+8 { // all leaves, seven pairs, and, if it was asked for, the root
		t.Errorf("%d texts", n)
	}
	b.B = &book.Book{}
	p := proves(t, b, 0)
	want := words(b.G, b.D.Image(), 0)
	want.Block.Path, want.Epochs.Path = make([]api.Digest, 3), make([]api.Digest, 3)
	if !alike(p, want) {
		t.Error("a book that no call made", p)
	}
}

// Rules 4 and 5: what is answered shares memory with nothing.
func TestMakeOwn(t *testing.T) {
	b, _ := made(t, small())
	was, image := seen(b), b.D.Image()
	for k := range sealed(b.G) {
		p, q := proves(t, b, k), proves(t, b, k)
		for _, x := range parts(&p) {
			other := twin(p)
			spoil(x)
			for i, y := range parts(&p) {
				if y != x && (!bytes.Equal(y.Data, parts(&other)[i].Data) || !slices.Equal(y.Path, parts(&other)[i].Path)) {
					t.Error("the parts share memory")
				}
			}
		}
		if !alike(q, words(b.G, image, k)) || !alike(proves(t, b, k), q) {
			t.Error("two answers share memory")
		}
	}
	still(t, "what is done to an answer", b, was)
}

// spoil writes into all that a part has, and behind it.
func spoil(x *proof.Part) {
	data, path := x.Data[:cap(x.Data)], x.Path[:cap(x.Path)]
	for k := range data {
		data[k] ^= 0xFF
	}
	for k := range path {
		path[k][k%32] ^= 0xFF
	}
}
