package proof_test

import (
	"bytes"
	"crypto/sha256"
	"encoding/binary"
	"math"
	"math/rand/v2"
	"slices"
	"testing"

	"garderobe/aes"
	"garderobe/api"
	"garderobe/book"
	"garderobe/geom"
	"garderobe/gf"
	"garderobe/logf"
	"garderobe/mend"
	"garderobe/nvm"
	"garderobe/proof"
	"garderobe/seal"
	"garderobe/sha"
	"garderobe/store"
	"garderobe/trust"
)

// text is n bytes, others of each seed.
func text(seed uint64, n int) []byte {
	r, b := rand.New(rand.NewPCG(seed, 33)), make([]byte, n)
	for k := range b {
		b[k] = byte(r.Uint32())
	}
	return b
}

// plans are geometries with one, two and three epoch blocks, with trees of 3, 5, 6 and 7 levels above the leaves.
func plans() []api.Geo {
	return []api.Geo{{Pages: 1, Tx: 4}, {Pages: 20, Tx: 4}, {Pages: 30, Tx: 6}, {Pages: 64, Tx: 24}}
}

// small is a geometry of few blocks.
func small() api.Geo { return plans()[0] }

// geos are geometries that may not be.
func geos() []api.Geo {
	return []api.Geo{{}, {Pages: -1, Tx: 4}, {Pages: 0, Tx: 4}, {Pages: 65, Tx: 4}, {Pages: 1, Tx: 3}, {Pages: 1, Tx: 25},
		{Pages: 1, Tx: 0}, {Pages: 1, Tx: -4}, {Pages: math.MaxInt, Tx: math.MaxInt}, {Pages: math.MinInt, Tx: math.MinInt}}
}

func newBook() *book.Book { return book.New(sha.Make()) }

// on is a base on whose device bytes stand.
func on(g api.Geo, r api.Reg, image []byte) store.Base {
	c, _ := aes.New(gf.NewBox(), text(99, 16))
	d := nvm.New(4 * geom.Total(g))
	d.Tamper(0, image)
	return store.Base{D: d, T: trust.At(d, r), S: seal.New(c), B: newBook(), G: g}
}

// formatted is a base of noughts.
func formatted(t *testing.T, g api.Geo) store.Base {
	t.Helper()
	b := on(g, api.Reg{}, text(1, 256*geom.Total(g)))
	if e := mend.Format(b); e != api.OK {
		t.Fatal("Format", e)
	}
	return b
}

// made is a base that was formatted, and the store of it, into which each block was committed, so that all epochs are
// unlike.
func made(t *testing.T, g api.Geo) (store.Base, *store.Store) {
	t.Helper()
	b := formatted(t, g)
	x, e := mend.Open(b, true)
	if e != api.OK {
		t.Fatal("Open", e)
	}
	for k := range geom.Sealed(g) {
		commit(t, x, logf.Entry{K: k, Data: text(uint64(k), 256)})
	}
	return b, x
}

func commit(t *testing.T, x *store.Store, l ...logf.Entry) {
	t.Helper()
	if e := x.Commit(l...); e != api.OK {
		t.Fatal("Commit", e)
	}
}

// low is a number's n bytes, the lowest first.
func low(n int, v uint64) []byte { return binary.LittleEndian.AppendUint64(nil, v)[:n] }

// sealed, epochs, leaves are how many there are of each, by the words of layer 7.
func sealed(g api.Geo) int { return 1 + (g.Pages+15)/16 + g.Pages }
func epochs(g api.Geo) int { return (sealed(g) + 31) / 32 }
func leaves(g api.Geo) int { return 1 + epochs(g) + sealed(g) }

// deep is how many levels there are above the leaves.
func deep(g api.Geo) int {
	d := 0
	for 1<<d < leaves(g) {
		d++
	}
	return d
}

// levels are the sums of the tree of what stands on a device, by the words of layer 12, and its root.
func levels(g api.Geo, image []byte) ([][]api.Digest, api.Digest) {
	row := make([]api.Digest, 1<<deep(g))
	for k := range leaves(g) {
		row[k] = sha256.Sum256(slices.Concat([]byte{0}, low(4, uint64(k)), image[256*k:256*k+256]))
	}
	l := [][]api.Digest{row}
	for level := 1; len(row) > 1; level++ {
		var next []api.Digest
		for i := range len(row) / 2 {
			next = append(next, sha256.Sum256(slices.Concat([]byte{1, byte(level)}, low(4, uint64(i)), row[2*i][:], row[2*i+1][:])))
		}
		row = next
		l = append(l, row)
	}
	return l, sha256.Sum256(slices.Concat([]byte{2}, low(4, uint64(leaves(g))), row[0][:]))
}

// part is that of a leaf, by the words.
func part(l [][]api.Digest, image []byte, leaf int) proof.Part {
	p := proof.Part{Data: bytes.Clone(image[256*leaf : 256*leaf+256])}
	for _, row := range l[:len(l)-1] {
		p.Path = append(p.Path, row[leaf^1])
		leaf /= 2
	}
	return p
}

// words is the proof of sealed block k of what stands on a device, by the words.
func words(g api.Geo, image []byte, k int) proof.Proof {
	l, _ := levels(g, image)
	return proof.Proof{K: k, Block: part(l, image, 1+epochs(g)+k), Epochs: part(l, image, 1+k/32)}
}

// spelt is the bytes of a proof, whatever it has, by the words.
func spelt(p proof.Proof) []byte {
	b := low(2, uint64(p.K))
	for _, x := range []proof.Part{p.Block, p.Epochs} {
		b = append(b, x.Data...)
		for _, d := range x.Path {
			b = append(b, d[:]...)
		}
	}
	return b
}

// alike tells whether two proofs are, without the package's own Same.
func alike(a, b proof.Proof) bool {
	return a.K == b.K && bytes.Equal(a.Block.Data, b.Block.Data) && slices.Equal(a.Block.Path, b.Block.Path) &&
		bytes.Equal(a.Epochs.Data, b.Epochs.Data) && slices.Equal(a.Epochs.Path, b.Epochs.Path)
}

// none tells whether there is nothing in a proof.
func none(p proof.Proof) bool { return alike(p, proof.Proof{}) }

// twin is a proof that has the same, and shares no memory with the other one.
func twin(p proof.Proof) proof.Proof {
	for _, x := range []*proof.Part{&p.Block, &p.Epochs} {
		x.Data, x.Path = bytes.Clone(x.Data), slices.Clone(x.Path)
	}
	return p
}

// parts are both parts of a proof.
func parts(p *proof.Proof) []*proof.Part { return []*proof.Part{&p.Block, &p.Epochs} }

// proves is the proof of a base, which there must be.
func proves(t *testing.T, b store.Base, k int) proof.Proof {
	t.Helper()
	p, e := proof.Make(b, k)
	if e != api.OK {
		t.Fatalf("Make of %d: error %d", k, e)
	}
	return p
}

// strange are proofs that may not be, made of one that may.
func strange(g api.Geo, p proof.Proof) map[string]proof.Proof {
	l := map[string]proof.Proof{"nothing": {}}
	for name, k := range map[string]int{"below 0": -1, "-32": -32, "the least": math.MinInt, "beyond the last": sealed(g), "beyond it": sealed(g) + 1, "16 bits more": p.K + 1<<16, "32 bits more": p.K + 1<<32, "the greatest": math.MaxInt} {
		x := twin(p)
		x.K = k
		l["number "+name] = x
	}
	for which, name := range []string{"block", "epochs"} {
		change := func(what string, do func(x *proof.Part)) {
			x := twin(p)
			do(parts(&x)[which])
			l[what+" of the "+name] = x
		}
		change("no part", func(x *proof.Part) { *x = proof.Part{} })
		change("no bytes", func(x *proof.Part) { x.Data = nil })
		change("one byte", func(x *proof.Part) { x.Data = x.Data[:1] })
		change("a byte too few", func(x *proof.Part) { x.Data = x.Data[:255] })
		change("a byte too many", func(x *proof.Part) { x.Data = append(x.Data, 0) })
		change("twice the bytes", func(x *proof.Part) { x.Data = append(x.Data, x.Data...) })
		change("no sums", func(x *proof.Part) { x.Path = nil })
		change("one sum", func(x *proof.Part) { x.Path = x.Path[:1] })
		change("a sum too few", func(x *proof.Part) { x.Path = x.Path[1:] })
		change("a sum too many", func(x *proof.Part) { x.Path = append(x.Path, api.Digest{}) })
		change("many sums", func(x *proof.Part) { x.Path = make([]api.Digest, 1000) })
	}
	return l
}

// state is all that can be seen of a base, but for its book.
type state struct {
	image               []byte
	reg                 api.Reg
	acts, used, pending int
	down                bool
}

// seen is how a base stands.
func seen(b store.Base) state {
	return state{b.D.Image(), b.T.Read(), len(b.D.Acts()), len(b.S.Used()), b.D.Pending(), b.D.Down()}
}

// still fails if a base doesn't stand as it was.
func still(t *testing.T, what string, b store.Base, was state) {
	t.Helper()
	is := seen(b)
	if !bytes.Equal(is.image, was.image) || is.reg != was.reg || is.acts != was.acts || is.used != was.used || is.pending != was.pending || is.down != was.down {
		t.Errorf("%s did something", what)
	}
}
