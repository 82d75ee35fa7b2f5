package differ_test

import (
	"bytes"
	"math/rand/v2"
	"slices"
	"testing"

	"garderobe/api"
	"garderobe/differ"
	"garderobe/geom"
	"garderobe/mend"
	"garderobe/nvm"
	"garderobe/store"
)

// brought are the acts that bring blocks of those numbers.
func brought(numbers ...int) []nvm.Act {
	var l []nvm.Act
	for _, k := range numbers {
		l = append(l, nvm.Act{Kind: nvm.Store, At: 256 * k, N: 256}, nvm.Act{Kind: nvm.Flush, At: 256 * k, N: 256})
	}
	if len(numbers) > 0 {
		l = append(l, nvm.Act{Kind: nvm.Fence})
	}
	return l
}

// put is a device's bytes with those of another one's blocks of those numbers.
func put(image, from []byte, numbers ...int) []byte {
	image = bytes.Clone(image)
	for _, k := range numbers {
		copy(image[256*k:256*k+256], from[256*k:])
	}
	return image
}

// brings fails if Bring doesn't bring just those blocks, and make them last; brought once more nothing is.
func brings(t *testing.T, what string, from, to store.Base, want ...int) {
	t.Helper()
	a, b := seen(from), seen(to)
	l, e := differ.Bring(from, to)
	if e != api.OK || !slices.Equal(l, want) {
		t.Fatalf("%s: Bring %v, error %d; not %v", what, l, e, want)
	}
	still(t, what, from, a, true)
	b.image, b.acts = put(b.image, a.image, want...), append(b.acts, brought(want...)...)
	still(t, what, to, b, true)
	l, e = differ.Bring(from, to)
	if e != api.OK || len(l) != 0 {
		t.Errorf("%s: brought again: %v, error %d", what, l, e)
	}
	still(t, what, to, b, true)
	x, _ := differ.Plant(from)
	y, _ := differ.Plant(to)
	if x.Root() != y.Root() {
		t.Errorf("%s: leaves are unlike", what)
	}
	still(t, what, from, a, true)
}

// rejects fails if Bring doesn't answer e, or does something; its books sum nothing.
func rejects(t *testing.T, what string, from, to store.Base, e api.Errno) {
	t.Helper()
	a, b := seen(from), seen(to)
	if l, got := differ.Bring(from, to); got != e || len(l) != 0 {
		t.Errorf("%s: Bring %v, error %d, not %d", what, l, got, e)
	}
	still(t, what, from, a, false)
	still(t, what, to, b, false)
}

// bad are bases that Plant refuses, each with its error.
func bad(t *testing.T, b store.Base) map[api.Errno][]store.Base {
	t.Helper()
	off := twin(b)
	off.D.Crash()
	return map[api.Errno][]store.Base{api.ErrNil: nils(b), api.ErrArg: strange(b), api.ErrDown: {off}}
}

// P34.2: Plant's error of the one that is brought from, ahead of the other one's; that one's.
func TestBringRefused(t *testing.T) {
	b, _ := made(t, small())
	good := turned(twin(b), 1, 3)
	for e, l := range bad(t, b) {
		for _, x := range l {
			refused(t, "Plant", x, e)
			rejects(t, "from", x, good, e)
			rejects(t, "to", good, x, e)
			for _, m := range bad(t, b) {
				for _, y := range m {
					rejects(t, "from and to", x, y, e)
				}
			}
		}
	}
	brings(t, "afterwards", b, good, 1, 3)
}

// P34.2: unlike geometries, behind both Plants; also those that have as many leaves, or as many blocks.
func TestBringGeometries(t *testing.T) {
	l := append(plans(), api.Geo{Pages: 1, Tx: 5}, api.Geo{Pages: 19, Tx: 5}, api.Geo{Pages: 20, Tx: 24})
	for _, g := range l {
		for _, h := range l {
			from, to := on(g, api.Reg{}, text(1, 256*geom.Total(g))), on(h, api.Reg{}, text(2, 256*geom.Total(h)))
			if g == h {
				continue
			}
			rejects(t, "another geometry", from, to, api.ErrArg)
			to.D.Crash()
			rejects(t, "another geometry, off", from, to, api.ErrDown)
			to.S = nil
			rejects(t, "another geometry, nil in part", from, to, api.ErrNil)
		}
	}
}

// P34.2, P34.4: devices that are alike, and that are unlike in one, some and all leaves; the log is none.
func TestBring(t *testing.T) {
	for _, g := range plans() {
		from, _ := made(t, g)
		brings(t, "alike", from, twin(from))
		brings(t, "the log", from, turned(twin(from), leaves(g), geom.Total(g)-1))
		for k := range leaves(g) {
			brings(t, "one", from, turned(twin(from), k), k)
		}
		r := rand.New(rand.NewPCG(uint64(g.Pages), 34))
		for range 10 {
			numbers := r.Perm(leaves(g))[:1+r.IntN(leaves(g))]
			slices.Sort(numbers)
			brings(t, "some", from, turned(turned(twin(from), numbers...), leaves(g)), numbers...)
			brings(t, "some, the other way", turned(twin(from), numbers...), twin(from), numbers...)
		}
		var all []int
		for k := range leaves(g) {
			all = append(all, k)
		}
		brings(t, "all", from, on(g, api.Reg{}, text(9, 256*geom.Total(g))), all...)
		brings(t, "bytes of any kind", on(g, api.Reg{}, text(8, 256*geom.Total(g))), twin(from), all...)
		brings(t, "noughts", on(g, api.Reg{}, nil), twin(from), all...)
	}
}

// P34.2: whatever the registers hold, which stay; keys play no part.
func TestBringRegisters(t *testing.T) {
	from, x := made(t, small())
	to := twin(from)
	commit(t, x, 5, 0, 2)
	was := to.T.Read()
	brings(t, "a Commit later", from, to, 1, 2, 4)
	if kind, _ := mend.Look(to); kind != mend.Wrong || to.T.Read() != was {
		t.Error("another register", kind)
	}
	to.T.Set(api.Reg{Count: 1 << 30, Root: from.T.Read().Root})
	if kind, _ := mend.Look(to); kind != mend.Whole {
		t.Error("that register", kind)
	}
	brings(t, "back", turned(twin(from), 0), to, 0)
}

// P34.4: a device that others wrote into is whole again, when its blocks are brought from one that is.
func TestBringMends(t *testing.T) {
	for _, g := range plans() {
		from, x := made(t, g)
		to := turned(twin(from), 0, 1, geom.SealedAt(g, 2), geom.SealedAt(g, 0))
		if kind, _ := mend.Look(to); kind != mend.Wrong {
			t.Error("ahead", kind)
		}
		brings(t, "written into", from, to, slices.Compact(sorted(0, 1, geom.SealedAt(g, 2), geom.SealedAt(g, 0)))...)
		y, e := mend.Open(to, false)
		if e != api.OK {
			t.Fatal("Open", e)
		}
		for k := range geom.Sealed(g) {
			p, e := y.Read(k)
			q, f := x.Read(k)
			if e != api.OK || f != api.OK || !bytes.Equal(p, q) {
				t.Error("block", k, e, f)
			}
		}
	}
}

// sorted are numbers, rising.
func sorted(l ...int) []int {
	slices.Sort(l)
	return l
}

// P34.2: what is brought is what was stored last, also if it doesn't last yet; and it lasts, whatever is pending there.
func TestBringPending(t *testing.T) {
	from, _ := made(t, small())
	to, image := twin(from), from.D.Image()
	from.D.Store(256*3+5, []byte{1, 2, 3})
	now := bytes.Clone(image)
	copy(now[256*3+5:], []byte{1, 2, 3})
	if l, e := differ.Bring(from, to); e != api.OK || !slices.Equal(l, []int{3}) {
		t.Error("Bring", l, e)
	}
	to.D.Crash()
	if !bytes.Equal(to.D.Image(), now) || !bytes.Equal(from.D.Image(), image) || from.D.Pending() == 0 {
		t.Error("what lasts")
	}
	to.D.On()
	from.D.Crash()
	from.D.On()
	to.D.Store(256*2+9, []byte{7})
	if l, e := differ.Bring(from, to); e != api.OK || !slices.Equal(l, []int{2, 3}) || to.D.Pending() != 0 {
		t.Error("Bring back", l, e, to.D.Pending())
	}
	to.D.Crash(1)
	if !bytes.Equal(to.D.Image(), image) {
		t.Error("what lasts")
	}
}

// P34.2: the power goes at each act of the device that is brought to, whichever words last; brought again all is there.
func TestBringDown(t *testing.T) {
	from, _ := made(t, plans()[1])
	numbers := []int{0, 1, 4, 24}
	for act := 1; act <= len(brought(numbers...))+1; act++ {
		for _, picks := range [][]byte{nil, {1}, {0, 1, 1, 0, 1}} {
			to := turned(twin(from), numbers...)
			was := seen(to)
			to.D.Arm(act, picks...)
			l, e := differ.Bring(from, to)
			if act > len(brought(numbers...)) {
				if e != api.OK || !slices.Equal(l, numbers) {
					t.Error("Bring", l, e)
				}
				continue
			}
			if e != api.ErrDown || len(l) != 0 || !slices.Equal(to.D.Acts(), brought(numbers...)[:act-1]) {
				t.Errorf("act %d: Bring %v, error %d, acts %v", act, l, e, to.D.Acts())
			}
			torn(t, act, picks, to, was.image, put(was.image, from.D.Image(), numbers[:act/2]...))
			to.D.On()
			if l, e := differ.Bring(from, to); e != api.OK || !bytes.Equal(to.D.Image(), from.D.Image()) || !slices.IsSorted(l) {
				t.Errorf("act %d: brought again: %v, error %d", act, l, e)
			}
		}
	}
}

// torn fails if what lasts, behind a loss of power at an act, is neither what it was nor what it is to be.
func torn(t *testing.T, act int, picks []byte, b store.Base, was, now []byte) {
	t.Helper()
	image := b.D.Image()
	switch {
	case len(picks) == 0 && !bytes.Equal(image, was):
		t.Errorf("act %d: something lasts", act)
	case len(picks) == 1 && !bytes.Equal(image, now):
		t.Errorf("act %d: something doesn't last", act)
	}
	for at := 0; at < len(image); at += 8 {
		w := image[at : at+8]
		if !bytes.Equal(w, was[at:at+8]) && !bytes.Equal(w, now[at:at+8]) {
			t.Errorf("act %d: word %d", act, at/8)
		}
	}
}

// P34.2: an Arm of the device that is brought from counts none of its loads.
func TestBringLoads(t *testing.T) {
	from, _ := made(t, small())
	from.D.Arm(1)
	brings(t, "armed", from, turned(twin(from), 2), 2)
	if from.D.Down() {
		t.Error("down")
	}
	same := turned(twin(from), 3)
	brings(t, "one device", same, same)
	other := same
	other.B = newBook()
	brings(t, "one device, another book", same, other)
}

// Rules 4 and 5: what is answered shares memory with nothing; what was brought hangs on the other device no more.
func TestBringOwn(t *testing.T) {
	from, _ := made(t, small())
	a, b := turned(twin(from), 0, 2, 3), turned(twin(from), 0, 2, 3)
	one, _ := differ.Bring(from, a)
	two, _ := differ.Bring(from, b)
	for k := range one[:cap(one)] {
		one[:cap(one)][k] = -1
	}
	_ = append(one, 5, 6)
	if !slices.Equal(two, []int{0, 2, 3}) {
		t.Error("shared", two)
	}
	image := from.D.Image()
	turned(from, 0, 1, 2)
	if !bytes.Equal(a.D.Image(), image) || !bytes.Equal(b.D.Image(), image) {
		t.Error("kept")
	}
}
