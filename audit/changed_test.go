package audit_test

import (
	"math/rand/v2"
	"slices"
	"testing"

	"garderobe/api"
	"garderobe/audit"
	"garderobe/geom"
	"garderobe/mend"
	"garderobe/store"
	"garderobe/tree"
)

// changed fails if Changed doesn't answer so.
func changed(t *testing.T, what string, s *store.Store, b store.Base, want ...int) {
	t.Helper()
	if l, e := audit.Changed(s, b); e != api.OK || !slices.Equal(l, want) {
		t.Errorf("%s: Changed %v, error %d; not %v", what, l, e, want)
	}
}

// denied fails if Changed doesn't answer e.
func denied(t *testing.T, what string, s *store.Store, b store.Base, e api.Errno) {
	t.Helper()
	if l, got := audit.Changed(s, b); got != e || len(l) != 0 {
		t.Errorf("%s: Changed %v, error %d, not %d", what, l, got, e)
	}
}

// P32.2: of a nil store, ahead of all else; of a base that is nil in part, or may not be, ahead of the device's error.
func TestChangedRefused(t *testing.T) {
	b, x := made(t, small())
	off := twin(b)
	off.D.Crash()
	for _, s := range []*store.Store{nil, {}} {
		denied(t, "a nil store", s, b, api.ErrNil)
		denied(t, "a nil store, off", s, off, api.ErrNil)
		denied(t, "a nil store, no base", s, store.Base{}, api.ErrNil)
	}
	for _, bad := range append(nils(b), strange(b)...) {
		denied(t, "a base that may not be", x, bad, api.ErrArg)
		bad.D.Crash()
		denied(t, "a base that may not be, off", x, bad, api.ErrArg)
		b.D.On()
	}
	denied(t, "off", x, off, api.ErrDown)
	off.D.On()
	changed(t, "on again", x, off)
}

// P32.2: others wrote into no block, into each one, and into many; the log is none of the leaves.
func TestChanged(t *testing.T) {
	for _, g := range plans() {
		b, x := made(t, g)
		image := b.D.Image()
		changed(t, "nobody wrote", x, b)
		for block := range geom.Total(g) {
			for _, k := range []int{0, 128, 255} {
				turned(b, 256*block+k)
				if block < geom.Leaves(g) {
					changed(t, "one block", x, b, block)
				} else {
					changed(t, "the log", x, b)
				}
				turned(b, 256*block+k)
			}
		}
		changed(t, "turned back", x, b)
		for seed := range uint64(20) {
			r := rand.New(rand.NewPCG(seed, 8))
			var want []int
			for block := range geom.Total(g) {
				if r.IntN(4) == 0 {
					turned(b, 256*block+r.IntN(256))
					if block < geom.Leaves(g) {
						want = append(want, block)
					}
				}
			}
			changed(t, "many blocks", x, b, want...)
			b.D.Tamper(0, image)
		}
		var all []int
		for k := range geom.Leaves(g) {
			all = append(all, k)
		}
		b.D.Tamper(0, text(5, 256*geom.Total(g)))
		changed(t, "all blocks", x, b, all...)
	}
}

// P32.2: blocks changed about: both; the super; an epoch.
func TestChangedPlaces(t *testing.T) {
	g := plans()[2]
	b, x := made(t, g)
	one, two := geom.SealedAt(g, 3), geom.SealedAt(g, 9)
	image := b.D.Image()
	b.D.Tamper(256*one, image[256*two:256*two+256])
	changed(t, "one in place of another", x, b, one)
	b.D.Tamper(256*two, image[256*one:256*one+256])
	changed(t, "changed about", x, b, one, two)
	b.D.Tamper(0, image)
	changed(t, "an epoch", x, turned(b, 256*geom.EpochAt(g, 1)+3), geom.EpochAt(g, 1))
	changed(t, "the super, too", x, turned(b, 10), 0, geom.EpochAt(g, 1))
}

// P32.4: nothing that is committed is Changed; a store that was opened ahead of it doesn't trust what was committed.
func TestCommitted(t *testing.T) {
	for seed, g := range plans() {
		r := rand.New(rand.NewPCG(uint64(seed), 9))
		b, x := made(t, g)
		for range 8 {
			old, e := mend.Open(twin(b), false)
			if e != api.OK {
				t.Fatal("Open", e)
			}
			var numbers []int
			for k := range geom.Sealed(g) {
				if r.IntN(geom.Sealed(g)) < 2 && len(numbers) < g.Tx {
					numbers = append(numbers, k)
				}
			}
			if e := x.Commit(entries(r.Uint64(), numbers...)...); e != api.OK {
				t.Fatal("Commit", e)
			}
			changed(t, "committed", x, b)
			var want []int
			for _, k := range numbers {
				want = append(want, geom.SealedAt(g, k), geom.EpochAt(g, k/32))
			}
			slices.Sort(want)
			changed(t, "an older store", old, b, slices.Compact(want)...)
			again, _ := mend.Open(b, true)
			changed(t, "opened again", again, b)
			changed(t, "the one ahead", x, b)
		}
	}
}

// P32.2: a store that is poisoned or down is asked for its leaves alone.
func TestChangedStates(t *testing.T) {
	b, x := made(t, small())
	at := geom.SealedAt(b.G, 1)
	turned(b, 256*at)
	if _, e := x.Read(1); e != api.ErrTampered {
		t.Fatal("Read", e)
	}
	changed(t, "poisoned", x, b, at)
	turned(b, 256*at)
	changed(t, "poisoned, turned back", x, b)
	for act := 1; act <= 18; act++ { // whether the register was set or not: what is Changed is what was not put yet
		b, x := made(t, small())
		old, _ := mend.Open(twin(b), false)
		b.D.Arm(act)
		if e := x.Commit(entries(4, 0, 2)...); e != api.ErrDown {
			t.Fatalf("act %d: error %d", act, e)
		}
		denied(t, "down", x, b, api.ErrDown)
		b.D.On()
		changed(t, "down", x, b, unlike(x, b)...)
		changed(t, "down, an older store", old, b, unlike(old, b)...)
		if act <= 8 {
			changed(t, "ahead of the Set", x, b)
		}
		if act == 10 {
			changed(t, "behind the Set", x, b, 1, geom.SealedAt(b.G, 0), geom.SealedAt(b.G, 2))
		}
	}
}

// unlike are by the words the blocks whose sum is not the store's leaf.
func unlike(s *store.Store, b store.Base) []int {
	var l []int
	image := b.D.Image()
	for k := range geom.Leaves(b.G) {
		if tree.Sum(b.B, k, image[256*k:256*k+256]) != s.Leaf(k) {
			l = append(l, k)
		}
	}
	return l
}

// P32.2: a base of another geometry, or of another device, than that of the store: each of its leaves is asked for.
func TestOtherBase(t *testing.T) {
	one, x := made(t, plans()[1])
	other, y := made(t, plans()[2])
	changed(t, "greater", x, other, unlike(x, other)...)
	changed(t, "smaller", y, one, unlike(y, one)...)
	if len(unlike(x, other)) != geom.Leaves(other.G) {
		t.Error("not all")
	}
	g := api.Geo{Pages: 19, Tx: 5} // as many blocks as one has
	swapped := one
	swapped.G = g
	changed(t, "as many", x, swapped, unlike(x, swapped)...)
	changed(t, "a copy", x, twin(one))
}

// Rules 3 to 6: nothing is changed, and no two answers share memory.
func TestChangedOwn(t *testing.T) {
	b, x := made(t, small())
	turned(turned(b, 300), 700)
	was, acts, used := twin(b), len(b.D.Acts()), len(b.S.Used())
	root := x.Root()
	l, _ := audit.Changed(x, b)
	m, _ := audit.Changed(x, b)
	for k := range l[:cap(l)] {
		l[:cap(l)][k] = -1
	}
	_ = append(l, 9, 9, 9)
	if !slices.Equal(m, []int{1, 2}) {
		t.Error("shared", m)
	}
	changed(t, "again", x, b, 1, 2)
	still(t, "Changed", b, was, acts)
	if len(b.S.Used()) != used || x.Root() != root || x.State() != api.OK {
		t.Error("something was done")
	}
	fresh := twin(b)
	changed(t, "a book of its own", x, fresh, 1, 2)
	if fresh.B.Len() < geom.Leaves(b.G)-2 {
		t.Error("not summed by the base's book", fresh.B.Len())
	}
}
