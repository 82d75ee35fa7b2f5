package differ_test

import (
	"bytes"
	"crypto/sha256"
	"encoding/binary"
	"math"
	"math/rand/v2"
	"slices"
	"testing"

	"garderobe/aes"
	"garderobe/api"
	"garderobe/book"
	"garderobe/geom"
	"garderobe/gf"
	"garderobe/logf"
	"garderobe/mend"
	"garderobe/nvm"
	"garderobe/seal"
	"garderobe/sha"
	"garderobe/store"
	"garderobe/tree"
	"garderobe/trust"
)

// text is n bytes, others of each seed.
func text(seed uint64, n int) []byte {
	r, b := rand.New(rand.NewPCG(seed, 34)), make([]byte, n)
	for k := range b {
		b[k] = byte(r.Uint32())
	}
	return b
}

// digests are n sums, others of each seed.
func digests(seed uint64, n int) []api.Digest {
	l := make([]api.Digest, n)
	for k := range l {
		l[k] = api.Digest(text(seed<<20+uint64(k), 32))
	}
	return l
}

func newBook() *book.Book { return book.New(sha.Make()) }

// planted is a tree of leaves, with a book of its own.
func planted(t *testing.T, l []api.Digest) *tree.Tree {
	t.Helper()
	x, e := tree.New(newBook(), l...)
	if e != api.OK {
		t.Fatal("New", e)
	}
	return x
}

// plans are geometries with one, two and three epoch blocks.
func plans() []api.Geo {
	return []api.Geo{{Pages: 1, Tx: 4}, {Pages: 20, Tx: 4}, {Pages: 30, Tx: 6}, {Pages: 64, Tx: 24}}
}

// small is a geometry of few blocks.
func small() api.Geo { return plans()[0] }

// geos are geometries that may not be, or are not those of a device of g.
func geos(g api.Geo) []api.Geo {
	return []api.Geo{{}, {Pages: -1, Tx: g.Tx}, {Pages: 0, Tx: g.Tx}, {Pages: 65, Tx: g.Tx}, {Pages: g.Pages, Tx: 3}, {Pages: g.Pages, Tx: 25},
		{Pages: math.MaxInt, Tx: math.MaxInt}, {Pages: math.MinInt, Tx: math.MinInt}, {Pages: g.Pages, Tx: g.Tx - 1}, {Pages: g.Pages, Tx: g.Tx + 1}}
}

// leaves is how many leaves there are, by the words of layer 7.
func leaves(g api.Geo) int {
	sealed := 1 + (g.Pages+15)/16 + g.Pages
	return 1 + (sealed+31)/32 + sealed
}

// on is a base on whose device bytes stand.
func on(g api.Geo, r api.Reg, image []byte) store.Base {
	c, _ := aes.New(gf.NewBox(), text(99, 16))
	d := nvm.New(4 * geom.Total(g))
	d.Tamper(0, image)
	return store.Base{D: d, T: trust.At(d, r), S: seal.New(c), B: newBook(), G: g}
}

// twin is a base that stands as another one does, with a sealer and a book of its own.
func twin(b store.Base) store.Base { return on(b.G, b.T.Read(), b.D.Image()) }

// made is a base that was formatted, and the store of it, into which each block was committed.
func made(t *testing.T, g api.Geo) (store.Base, *store.Store) {
	t.Helper()
	b := on(g, api.Reg{}, text(1, 256*geom.Total(g)))
	if e := mend.Format(b); e != api.OK {
		t.Fatal("Format", e)
	}
	x, e := mend.Open(b, true)
	if e != api.OK {
		t.Fatal("Open", e)
	}
	for k := range geom.Sealed(g) {
		commit(t, x, uint64(k), k)
	}
	return b, x
}

// commit puts in blocks of those numbers, of other bytes of each seed.
func commit(t *testing.T, x *store.Store, seed uint64, numbers ...int) {
	t.Helper()
	var l []logf.Entry
	for _, k := range numbers {
		l = append(l, logf.Entry{K: k, Data: text(seed*1000+uint64(k), 256)})
	}
	if e := x.Commit(l...); e != api.OK {
		t.Fatal("Commit", e)
	}
}

// turned is a base in which a byte of each of some blocks was turned.
func turned(b store.Base, blocks ...int) store.Base {
	image := b.D.Image()
	for _, k := range blocks {
		at := 256*k + k%256
		b.D.Tamper(at, []byte{image[at] ^ 0x40})
	}
	return b
}

// low is a number's n bytes, the lowest first.
func low(n int, v uint64) []byte { return binary.LittleEndian.AppendUint64(nil, v)[:n] }

// levels are the sums of a tree, by the words of layer 12, and its root.
func levels(leaves []api.Digest) ([][]api.Digest, api.Digest) {
	row := slices.Clone(leaves)
	for len(row)&(len(row)-1) != 0 {
		row = append(row, api.Digest{})
	}
	l := [][]api.Digest{row}
	for level := 1; len(row) > 1; level++ {
		var next []api.Digest
		for i := range len(row) / 2 {
			next = append(next, sha256.Sum256(slices.Concat([]byte{1, byte(level)}, low(4, uint64(i)), row[2*i][:], row[2*i+1][:])))
		}
		row = next
		l = append(l, row)
	}
	return l, sha256.Sum256(slices.Concat([]byte{2}, low(4, uint64(len(leaves))), row[0][:]))
}

// sums are the leaves of what stands on a device, by the words.
func sums(g api.Geo, image []byte) []api.Digest {
	var l []api.Digest
	for k := range leaves(g) {
		l = append(l, sha256.Sum256(slices.Concat([]byte{0}, low(4, uint64(k)), image[256*k:256*k+256])))
	}
	return l
}

// pairs are how many are held against one another, from a place down: by the words, without a queue.
func pairs(a, b [][]api.Digest, level, i int) int {
	if a[level][i] == b[level][i] || level == 0 {
		return 1
	}
	return 1 + pairs(a, b, level-1, 2*i) + pairs(a, b, level-1, 2*i+1)
}

// words are the leaves that are unlike, and how many pairs are held against one another, by the words.
func words(a, b []api.Digest) ([]int, int) {
	var l []int
	for k := range a {
		if a[k] != b[k] {
			l = append(l, k)
		}
	}
	x, _ := levels(a)
	y, _ := levels(b)
	return l, pairs(x, y, len(x)-1, 0)
}

// state is all that can be seen of a base.
type state struct {
	image                []byte
	reg                  api.Reg
	acts                 []nvm.Act
	used, texts, pending int
	down                 bool
}

// seen is how a base stands.
func seen(b store.Base) state {
	return state{b.D.Image(), b.T.Read(), b.D.Acts(), len(b.S.Used()), b.B.Len(), b.D.Pending(), b.D.Down()}
}

// still fails if a base doesn't stand as it was; its book may have summed something, if that is said.
func still(t *testing.T, what string, b store.Base, was state, summed bool) {
	t.Helper()
	is := seen(b)
	same := bytes.Equal(is.image, was.image) && is.reg == was.reg && slices.Equal(is.acts, was.acts) && is.used == was.used && is.pending == was.pending && is.down == was.down
	if !same || !summed && is.texts != was.texts {
		t.Errorf("%s did something", what)
	}
}

// nils are bases that lack one of the four, or all.
func nils(b store.Base) []store.Base {
	l := []store.Base{b, b, b, b, {G: b.G}, {}}
	l[0].D, l[1].T, l[2].S, l[3].B = nil, nil, nil, nil
	return l
}

// strange are bases whose geometry may not be, or whose device has not its blocks.
func strange(b store.Base) []store.Base {
	var l []store.Base
	for _, g := range geos(b.G) {
		other := b
		other.G = g
		l = append(l, other)
	}
	n := 4 * geom.Total(b.G)
	for _, lines := range []int{0, 1, n - 4, n - 1, n + 1, n + 4, 1024} {
		other := b
		other.D = nvm.New(lines)
		l = append(l, other)
	}
	other := b
	other.D = &nvm.Device{}
	return append(l, other)
}
