package proof_test

import (
	"bytes"
	"math/rand/v2"
	"testing"

	"garderobe/api"
	"garderobe/book"
	"garderobe/geom"
	"garderobe/logf"
	"garderobe/mend"
	"garderobe/proof"
	"garderobe/store"
)

// checks fails if Check, with a book of its own, doesn't answer so.
func checks(t *testing.T, what string, g api.Geo, root api.Digest, p proof.Proof, epoch uint64, e api.Errno) {
	t.Helper()
	b := newBook()
	if n, got := proof.Check(b, g, root, p); n != epoch || got != e {
		t.Errorf("%s: Check %d, error %d; not %d, %d", what, n, got, epoch, e)
	}
	if _, _, clash := b.Clash(); clash {
		t.Error("a clash")
	}
}

// P33.2, P33.4: behind a Format and behind Commits, with the epoch that the store has; for the same root by the words.
func TestCheck(t *testing.T) {
	for _, g := range plans() {
		b := formatted(t, g)
		for k := range sealed(g) {
			checks(t, "formatted", g, b.T.Read().Root, proves(t, b, k), 2, api.OK)
		}
		b, x := made(t, g)
		_, root := levels(g, b.D.Image())
		if root != b.T.Read().Root {
			t.Fatal("the root")
		}
		for k := range sealed(g) {
			checks(t, "committed", g, root, words(g, b.D.Image(), k), x.Epoch(k), api.OK)
			checks(t, "committed", g, root, proves(t, b, k), uint64(4+k), api.OK)
		}
	}
}

// P33.4: behind Commits of several blocks, behind one that was cut off at each act, and the Open that follows.
func TestCheckWhole(t *testing.T) {
	var seen [4]int
	for act := 1; act <= 20; act++ {
		b, x := made(t, small())
		b.D.Arm(act, byte(act/3), 1)
		x.Commit(logf.Entry{K: 0, Data: text(1000, 256)}, logf.Entry{K: 2, Data: text(1001, 256)})
		b.D.On()
		kind, _ := mend.Look(b)
		seen[kind]++
		if kind == mend.Whole {
			holds(t, b)
		}
		y, e := mend.Open(b, true)
		if e != api.OK {
			t.Fatal("Open", e)
		}
		holds(t, b)
		for k := range y.Len() {
			checks(t, "opened", b.G, y.Root(), proves(t, b, k), y.Epoch(k), api.OK)
		}
	}
	if seen[mend.Whole] == 0 || seen[mend.Redone] == 0 || seen[mend.Wrong] > 0 {
		t.Error("kinds", seen)
	}
	for _, g := range plans() {
		b, x := made(t, g)
		r := rand.New(rand.NewPCG(uint64(g.Pages), 7))
		for range 6 {
			var l []logf.Entry
			for k := range sealed(g) {
				if r.IntN(sealed(g)) < 3 && len(l) < g.Tx {
					l = append(l, logf.Entry{K: k, Data: text(r.Uint64(), 256)})
				}
			}
			commit(t, x, l...)
			holds(t, b)
		}
	}
}

// holds fails if a proof of a base isn't OK for the root that the register holds.
func holds(t *testing.T, b store.Base) {
	t.Helper()
	for k := range sealed(b.G) {
		at := b.D.Image()[256*geom.EpochAt(b.G, k/32)+8*(k%32):]
		n, e := proof.Check(b.B, b.G, b.T.Read().Root, proves(t, b, k))
		if e != api.OK || !bytes.Equal(low(8, n), at[:8]) {
			t.Errorf("Check of %d: %d, error %d", k, n, e)
		}
	}
}

// P33.2: an epoch's eight bytes are read, in their place.
func TestCheckEpochs(t *testing.T) {
	for _, g := range plans() {
		junk := text(3, 256*geom.Total(g))
		_, root := levels(g, junk)
		b := on(g, api.Reg{}, junk)
		for k := range sealed(g) {
			p := proves(t, b, k)
			var want uint64
			for i := range 8 {
				want |= uint64(junk[256*(1+k/32)+8*(k%32)+i]) << (8 * i)
			}
			checks(t, "any bytes", g, root, p, want, api.OK)
		}
	}
}

// P33.2: of a nil book, ahead of all else; of proofs that may not be, ahead of where they lead.
func TestCheckRefused(t *testing.T) {
	for _, g := range plans() {
		b, _ := made(t, g)
		root, p := b.T.Read().Root, proves(t, b, 2)
		for _, other := range append(geos(), g) {
			if n, e := proof.Check(nil, other, root, p); n != 0 || e != api.ErrNil {
				t.Error("a nil book", n, e)
			}
		}
		for what, x := range strange(g, p) {
			for _, r := range []api.Digest{root, {}} {
				checks(t, what, g, r, x, 0, api.ErrArg)
			}
			if n, e := proof.Check(nil, g, root, x); n != 0 || e != api.ErrNil {
				t.Error("a nil book", what, n, e)
			}
		}
		for _, other := range geos() {
			checks(t, "a geometry that may not be", other, root, p, 0, api.ErrArg)
		}
		checks(t, "nothing", api.Geo{}, api.Digest{}, proof.Proof{}, 0, api.ErrArg)
	}
}

// P33.2: refused proofs are not summed.
func TestCheckRefusedSums(t *testing.T) {
	g := small()
	b, _ := made(t, g)
	fresh := newBook()
	for what, x := range strange(g, proves(t, b, 2)) {
		proof.Check(fresh, g, b.T.Read().Root, x)
		if fresh.Len() != 0 {
			t.Fatal(what, "was summed")
		}
	}
	proof.Check(fresh, g, b.T.Read().Root, proves(t, b, 2))
	if n := fresh.Len(); n != 2+3+3-1+1 { // two leaves, two ways of three pairs, of which the topmost one is the same, the root
		t.Error("texts", n)
	}
}

// P33.2: another geometry: of another depth, of another number of leaves; one with the same leaves is as good.
func TestCheckOtherGeometry(t *testing.T) {
	for _, g := range plans() {
		b, _ := made(t, g)
		root, p := b.T.Read().Root, proves(t, b, 2)
		for pages := 1; pages <= api.MaxPages; pages++ {
			for _, tx := range []int{4, 24} {
				other := api.Geo{Pages: pages, Tx: tx}
				n, e := uint64(0), api.ErrTampered
				switch {
				case deep(other) != deep(g):
					e = api.ErrArg
				case pages == g.Pages:
					n, e = 6, api.OK
				}
				checks(t, "another geometry", other, root, p, n, e)
			}
		}
	}
}

// P33.2: one byte of the block, of the path, of the block of epochs or of its path is turned; of the root; another root.
func TestCheckTurned(t *testing.T) {
	for _, g := range plans() {
		b, _ := made(t, g)
		root, last := b.T.Read().Root, sealed(g)-1
		p := proves(t, b, last)
		for _, x := range parts(&p) {
			for k := range x.Data {
				if g != small() && k%17 != 0 {
					continue
				}
				x.Data[k] ^= 1 << (k % 8)
				checks(t, "a byte of a block", g, root, p, 0, api.ErrTampered)
				x.Data[k] ^= 1 << (k % 8)
			}
			for k := range x.Path {
				for i := range x.Path[k] {
					x.Path[k][i] ^= 1 << (i % 8)
					checks(t, "a byte of a path", g, root, p, 0, api.ErrTampered)
					x.Path[k][i] ^= 1 << (i % 8)
				}
			}
		}
		for i := range root {
			root[i] ^= 4
			checks(t, "a byte of the root", g, root, p, 0, api.ErrTampered)
			root[i] ^= 4
		}
		checks(t, "noughts for a root", g, api.Digest{}, p, 0, api.ErrTampered)
		checks(t, "turned back", g, root, p, uint64(4+last), api.OK)
	}
}

// P33.2: each number has its own leaf, and its own block of epochs.
func TestCheckMixed(t *testing.T) {
	for _, g := range plans()[1:] {
		b, _ := made(t, g)
		root := b.T.Read().Root
		var all []proof.Proof
		for k := range sealed(g) {
			all = append(all, proves(t, b, k))
		}
		for k, p := range all {
			for o, other := range all {
				x := proof.Proof{K: k, Block: other.Block, Epochs: p.Epochs}
				y := proof.Proof{K: k, Block: p.Block, Epochs: other.Epochs}
				if o == k {
					continue
				}
				if (k*7+o)%5 == 0 {
					checks(t, "another block", g, root, x, 0, api.ErrTampered)
				}
				if o/32 != k/32 {
					checks(t, "another block of epochs", g, root, y, 0, api.ErrTampered)
				} else if (k+o)%9 == 0 {
					checks(t, "one block of epochs", g, root, y, uint64(4+k), api.OK)
				}
			}
			x := proof.Proof{K: k, Block: p.Epochs, Epochs: p.Block}
			checks(t, "the parts changed about", g, root, x, 0, api.ErrTampered)
			x = twin(p)
			x.Block.Path[0], x.Block.Path[1] = x.Block.Path[1], x.Block.Path[0]
			checks(t, "sums changed about", g, root, x, 0, api.ErrTampered)
		}
	}
}

// P33.2: what stood there a Commit ago does not lead to the root that there is now; nor what others wrote.
func TestCheckOld(t *testing.T) {
	for _, g := range plans() {
		b, x := made(t, g)
		was := b.T.Read().Root
		for k := range sealed(g) {
			old := proves(t, b, k)
			checks(t, "as it is", g, was, old, x.Epoch(k), api.OK)
			commit(t, x, logf.Entry{K: k, Data: text(uint64(500+k), 256)})
			root, now := b.T.Read().Root, proves(t, b, k)
			checks(t, "a Commit ago", g, root, old, 0, api.ErrTampered)
			checks(t, "its root a Commit ago", g, was, now, 0, api.ErrTampered)
			checks(t, "the old block alone", g, root, proof.Proof{K: k, Block: old.Block, Epochs: now.Epochs}, 0, api.ErrTampered)
			checks(t, "the old epochs alone", g, root, proof.Proof{K: k, Block: now.Block, Epochs: old.Epochs}, 0, api.ErrTampered)
			checks(t, "now", g, root, now, x.Epoch(k), api.OK)
			was = root
		}
		b.D.Tamper(256*geom.SealedAt(g, 1)+8, []byte{1, 2, 3, 4})
		checks(t, "written into", g, was, proves(t, b, 1), 0, api.ErrTampered)
		checks(t, "another one was written into", g, was, proves(t, b, 0), 0, api.ErrTampered)
		_, root := levels(g, b.D.Image())
		checks(t, "the root as it stands", g, root, proves(t, b, 1), x.Epoch(1), api.OK)
	}
}

// P33.5: of all that is made of two proofs that are OK for a root, part by part, byte by byte, what is OK has the block
// and the epoch of its number.
func TestOneBlock(t *testing.T) {
	for seed, g := range plans() {
		b, x := made(t, g)
		root, r := b.T.Read().Root, rand.New(rand.NewPCG(uint64(seed), 3))
		fine := 0
		for range 400 {
			k := r.IntN(sealed(g))
			p := twin(proves(t, b, k))
			for range r.IntN(3) {
				disturb(r, b, &p)
			}
			n, e := proof.Check(b.B, g, root, p)
			if e != api.OK {
				continue
			}
			fine++
			if !bytes.Equal(p.Block.Data, words(g, b.D.Image(), p.K).Block.Data) || n != x.Epoch(p.K) {
				t.Errorf("another block, or epoch, of %d", p.K)
			}
		}
		if _, _, clash := b.B.Clash(); clash || fine < 100 {
			t.Error("clash", clash, fine)
		}
	}
}

// disturb changes something of a proof, or nothing.
func disturb(r *rand.Rand, b store.Base, p *proof.Proof) {
	other := r.IntN(sealed(b.G))
	q, _ := proof.Make(b, other)
	x := parts(p)[r.IntN(2)]
	switch r.IntN(6) {
	case 0:
		p.K = other
	case 1:
		p.Block = q.Block
	case 2:
		p.Epochs = q.Epochs
	case 3:
		x.Data[r.IntN(256)] ^= byte(r.IntN(2))
	case 4:
		x.Path[r.IntN(len(x.Path))][r.IntN(32)] ^= byte(r.IntN(2))
	case 5:
		*p = q
	}
}

// P33.2: it is the book that is handed in that sums; one that no call made sums to noughts.
func TestCheckBooks(t *testing.T) {
	b, _ := made(t, small())
	p, was := proves(t, b, 2), b.B.Len()
	checks(t, "a book of its own", b.G, b.T.Read().Root, p, 6, api.OK)
	if b.B.Len() != was {
		t.Error("another book")
	}
	if n, e := proof.Check(&book.Book{}, b.G, b.T.Read().Root, p); n != 0 || e != api.ErrTampered {
		t.Error("a book that no call made", n, e)
	}
}

// Rules 4 to 6: a proof that is handed in is neither changed nor kept; the same is answered again.
func TestCheckHandedIn(t *testing.T) {
	b, _ := made(t, plans()[1])
	p := proves(t, b, 5)
	was, w := twin(p), seen(b)
	for range 3 {
		checks(t, "again", b.G, b.T.Read().Root, p, 9, api.OK)
	}
	if !alike(p, was) {
		t.Error("changed")
	}
	still(t, "Check", b, w)
	for _, x := range parts(&p) {
		spoil(x)
	}
	checks(t, "spoilt", b.G, b.T.Read().Root, p, 0, api.ErrTampered)
	checks(t, "as it was", b.G, b.T.Read().Root, was, 9, api.OK)
}
