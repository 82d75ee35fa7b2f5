package differ_test

import (
	"bytes"
	"testing"

	"garderobe/api"
	"garderobe/book"
	"garderobe/differ"
	"garderobe/geom"
	"garderobe/mend"
	"garderobe/store"
	"garderobe/tree"
)

// refused fails if Plant doesn't answer e, and nothing.
func refused(t *testing.T, what string, b store.Base, e api.Errno) {
	t.Helper()
	if x, got := differ.Plant(b); got != e || x != nil {
		t.Errorf("%s: Plant: error %d, not %d; %v", what, got, e, x)
	}
}

// P34.2: a base that is nil in part, ahead of all else; that may not be, ahead of the device's error; as Look tells.
func TestPlantRefused(t *testing.T) {
	for _, g := range plans() {
		b, _ := made(t, g)
		for _, x := range nils(b) {
			refused(t, "nil in part", x, api.ErrNil)
			x.G = api.Geo{}
			refused(t, "nil in part, of no geometry", x, api.ErrNil)
			_, e := mend.Look(x)
			refused(t, "as Look", x, e)
		}
		for _, x := range strange(b) {
			refused(t, "may not be", x, api.ErrArg)
			x.D.Crash()
			refused(t, "may not be, off", x, api.ErrArg)
			x.D.On()
			_, e := mend.Look(x)
			refused(t, "as Look", x, e)
			x.S = nil
			refused(t, "may not be, nil in part", x, api.ErrNil)
		}
		b.D.Crash()
		was := seen(b)
		refused(t, "off", b, api.ErrDown)
		still(t, "Plant, off", b, was, false)
	}
}

// stands fails if Plant isn't, by the words, the tree of what stands on a device.
func stands(t *testing.T, what string, b store.Base, image []byte) *tree.Tree {
	t.Helper()
	x, e := differ.Plant(b)
	if e != api.OK {
		t.Fatalf("%s: Plant: error %d", what, e)
	}
	want := sums(b.G, image)
	all, root := levels(want)
	if x.Len() != len(want) || x.Depth() != len(all)-1 || x.Root() != root {
		t.Errorf("%s: Plant: %d leaves", what, x.Len())
	}
	for k, d := range want {
		if x.At(k) != d {
			t.Errorf("%s: leaf %d", what, k)
		}
	}
	return x
}

// P34.2: the leaves as they stand, whatever the register holds, and whoever wrote into them; the log is no leaf.
func TestPlant(t *testing.T) {
	for _, g := range plans() {
		b, s := made(t, g)
		was := seen(b)
		if x := stands(t, "committed", b, was.image); x.Root() != b.T.Read().Root || x.Root() != s.Root() {
			t.Error("the root")
		}
		still(t, "Plant", b, was, true)
		for block := range geom.Total(g) {
			turned(b, block)
			if x := stands(t, "written into", b, b.D.Image()); (x.Root() == b.T.Read().Root) != (block >= leaves(g)) {
				t.Errorf("block %d: the root", block)
			}
			turned(b, block)
		}
		commit(t, s, 70, 0, 2)
		stands(t, "committed again", b, b.D.Image())
		b.T.Set(api.Reg{Count: 1 << 40, Root: api.Digest{1}})
		stands(t, "another register", b, b.D.Image())
		junk := text(6, 256*geom.Total(g))
		stands(t, "bytes of any kind", on(g, api.Reg{}, junk), junk)
		stands(t, "noughts", on(g, api.Reg{}, nil), make([]byte, 256*geom.Total(g)))
	}
}

// P34.2: what is loaded is what was stored last, also if it doesn't last yet.
func TestPlantPending(t *testing.T) {
	b, _ := made(t, small())
	image := b.D.Image()
	b.D.Store(300, []byte{1, 2, 3})
	now := bytes.Clone(image)
	copy(now[300:], []byte{1, 2, 3})
	stands(t, "stored", b, now)
	b.D.Crash()
	refused(t, "off", b, api.ErrDown)
	b.D.On()
	stands(t, "gone", b, image)
}

// P34.2: it is the base's book that sums.
func TestPlantBooks(t *testing.T) {
	b, _ := made(t, small())
	b.B = newBook()
	x := stands(t, "a new book", b, b.D.Image())
	if n := b.B.Len(); n != 5+7+1 { // the leaves, the pairs, the root
		t.Errorf("%d texts", n)
	}
	x.Set(tree.Leaf{K: 0, Sum: api.Digest{5}})
	if n := b.B.Len(); n != 5+7+1+3 {
		t.Errorf("%d texts", n)
	}
	b.B = &book.Book{}
	y, e := differ.Plant(b)
	if e != api.OK || y.Len() != 5 || y.Root() != (api.Digest{}) || y.At(3) != (api.Digest{}) {
		t.Error("a book that no call made", e)
	}
}

// Rules 4 and 5: each tree that is answered stands for itself.
func TestPlantOwn(t *testing.T) {
	b, _ := made(t, small())
	was := seen(b)
	x, _ := differ.Plant(b)
	y, _ := differ.Plant(b)
	x.Set(tree.Leaf{K: 1, Sum: api.Digest{1}}, tree.Leaf{K: 4, Sum: api.Digest{2}})
	turned(b, 2)
	if y.Root() != was.reg.Root || y.At(1) == x.At(1) || y.At(2) != x.At(2) {
		t.Error("shared")
	}
	turned(b, 2)
	stands(t, "again", b, was.image)
	still(t, "what is done to a tree", b, was, true)
}
