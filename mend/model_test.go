package mend_test

import (
	"bytes"
	"math"
	"math/rand/v2"
	"slices"
	"testing"

	"garderobe/aes"
	"garderobe/api"
	"garderobe/book"
	"garderobe/geom"
	"garderobe/gf"
	"garderobe/logf"
	"garderobe/mend"
	"garderobe/nvm"
	"garderobe/seal"
	"garderobe/sha"
	"garderobe/store"
	"garderobe/super"
	"garderobe/tree"
	"garderobe/trust"
)

// text is n bytes, others of each seed.
func text(seed uint64, n int) []byte {
	r, b := rand.New(rand.NewPCG(seed, 2)), make([]byte, n)
	for k := range b {
		b[k] = byte(r.Uint32())
	}
	return b
}

// tools are what all bases of a test have alike.
type tools struct {
	t      *testing.T
	table  *sha.Table
	cipher *aes.Cipher
}

func begin(t *testing.T) tools {
	t.Helper()
	c, e := aes.New(gf.NewBox(), text(999, 16))
	if e != api.OK {
		t.Fatal(e)
	}
	return tools{t, sha.Make(), c}
}

// plans are geometries with one, two and three epoch blocks, just filled and just begun, with few and many blocks to a
// transaction.
func plans() []api.Geo {
	return []api.Geo{{Pages: 1, Tx: 4}, {Pages: 20, Tx: 4}, {Pages: 29, Tx: 5}, {Pages: 30, Tx: 6}, {Pages: 60, Tx: 24}, {Pages: 64, Tx: 24}}
}

// small is a geometry of few blocks.
func small() api.Geo { return api.Geo{Pages: 1, Tx: 4} }

// truth is what a store is to have.
type truth struct {
	tools
	g      api.Geo
	count  uint64
	plain  [][]byte
	epochs []uint64
	once   *once
}

// once is what a truth works out once: its blocks, and their root.
type once struct {
	blocks [][]byte
	root   api.Digest
}

// blank is what is there behind a Format that ends with a count.
func (o tools) blank(g api.Geo, count uint64) truth {
	w := truth{tools: o, g: g, count: count, once: &once{}}
	for range geom.Sealed(g) {
		w.plain = append(w.plain, make([]byte, 256))
		w.epochs = append(w.epochs, count)
	}
	return w
}

// with is what is there behind a Commit of a count.
func (w truth) with(count uint64, l []logf.Entry) truth {
	w.plain, w.epochs, w.count = slices.Clone(w.plain), slices.Clone(w.epochs), count
	w.once = &once{}
	for _, x := range l {
		w.plain[x.K], w.epochs[x.K] = bytes.Clone(x.Data), count
	}
	return w
}

// filled is a store in which all blocks are unlike, of many Commits.
func (o tools) filled(g api.Geo, count uint64) truth {
	w := o.blank(g, count)
	for k := range w.plain {
		w.plain[k], w.epochs[k] = text(uint64(k), 256), count-uint64(k%3)
	}
	return w
}

// blocks are those of the leaves.
func (w truth) blocks() [][]byte {
	if w.once.blocks == nil {
		w.once.blocks = w.work()
		w.once.root = w.rootOf(w.once.blocks)
	}
	return slices.Clone(w.once.blocks)
}

// root is the sum of all blocks.
func (w truth) root() api.Digest {
	w.blocks()
	return w.once.root
}

// work works the blocks out.
func (w truth) work() [][]byte {
	first, _ := super.Bytes(w.g)
	l, s := [][]byte{first}, seal.New(w.cipher)
	for k := range geom.Epochs(w.g) {
		b, _ := super.Block(w.g, k, w.epochs)
		l = append(l, b)
	}
	for k, epoch := range w.epochs {
		b, _ := s.Seal(epoch, k, w.plain[k])
		l = append(l, b)
	}
	return l
}

// rootOf is the root of some blocks.
func (o tools) rootOf(blocks [][]byte) api.Digest {
	b := book.New(o.table)
	var l []api.Digest
	for k, data := range blocks {
		l = append(l, tree.Sum(b, k, data))
	}
	x, _ := tree.New(b, l...)
	return x.Root()
}

// reg is what the register is to hold.
func (w truth) reg() api.Reg { return api.Reg{Count: w.count, Root: w.root()} }

// image is all bytes that are to last, with noughts in the log.
func (w truth) image() []byte {
	return append(bytes.Join(w.blocks(), nil), make([]byte, 256*(1+w.g.Tx))...)
}

// base is one of noughts.
func (o tools) base(g api.Geo, r api.Reg) store.Base {
	d := nvm.New(4 * geom.Total(g))
	return store.Base{D: d, T: trust.At(d, r), S: seal.New(o.cipher), B: book.New(o.table), G: g}
}

// on is a base on whose device bytes stand.
func (o tools) on(g api.Geo, r api.Reg, image []byte) store.Base {
	b := o.base(g, r)
	if !b.D.Tamper(0, image) {
		o.t.Helper()
		o.t.Fatal("no room on the device")
	}
	return b
}

// there is a base on whose device it all stands.
func (w truth) there() store.Base { return w.on(w.g, w.reg(), w.image()) }

// twin is a base that stands as another one does, with a sealer and a book of its own.
func (o tools) twin(b store.Base) store.Base {
	out := o.on(b.G, b.T.Read(), b.D.Image())
	if b.D.Down() {
		out.D.Crash()
	}
	return out
}

// script is acts that are done to a base, one behind the other, till one has an error.
type script []func(b store.Base) api.Errno

func (s script) do(b store.Base) api.Errno {
	for _, step := range s {
		if e := step(b); e != api.OK {
			return e
		}
	}
	return api.OK
}

// sets puts a count and a root into the register.
func sets(count uint64, root api.Digest) func(b store.Base) api.Errno {
	return func(b store.Base) api.Errno { return b.T.Set(api.Reg{Count: count, Root: root}) }
}

// puts are the acts by which blocks come to last, and nothing of the log.
func puts(blocks [][]byte) script {
	var s script
	for k, data := range blocks {
		s = append(s, func(b store.Base) api.Errno { return store.Put(b, k, data) })
	}
	return append(s, func(b store.Base) api.Errno { return b.D.Fence() }, func(b store.Base) api.Errno { return store.Scrub(b, 1+b.G.Tx) })
}

// formats are the acts of a Format of a register that holds r, which ends in w.
func (w truth) formats(r api.Reg) script {
	s := script{sets(r.Count+1, r.Root)}
	return append(append(s, puts(w.blocks())...), sets(r.Count+2, w.root()))
}

// opens are the acts of an Open in which w is found.
func (w truth) opens(write bool) script {
	s := puts(w.blocks())
	if write {
		r := w.reg()
		s = append(s, sets(r.Count+1, r.Root))
	}
	return s
}

// alike fails if two bases do not stand alike, or other acts were done to one than to the other.
func alike(t *testing.T, what string, a, b store.Base) {
	t.Helper()
	if !slices.Equal(a.D.Acts(), b.D.Acts()) {
		t.Errorf("%s: acts %v, not %v", what, a.D.Acts(), b.D.Acts())
	}
	if a.T.Read() != b.T.Read() || a.D.Down() != b.D.Down() || a.D.Pending() != b.D.Pending() || !bytes.Equal(a.D.Image(), b.D.Image()) {
		t.Errorf("%s: not alike; counts %d, %d", what, a.T.Read().Count, b.T.Read().Count)
	}
}

// found fails if Look does not tell kind, or does something.
func found(t *testing.T, what string, b store.Base, kind int) {
	t.Helper()
	image, acts, used, r := b.D.Image(), len(b.D.Acts()), len(b.S.Used()), b.T.Read()
	if got, e := mend.Look(b); e != api.OK || got != kind {
		t.Errorf("%s: Look %d, error %d; not %d", what, got, e, kind)
	}
	if len(b.D.Acts()) != acts || len(b.S.Used()) != used || b.T.Read() != r || !bytes.Equal(b.D.Image(), image) {
		t.Errorf("%s: Look did something", what)
	}
}

// opened is the store of an Open that is OK; it fails if that one doesn't have what w says, but for the count.
func opened(t *testing.T, what string, b store.Base, write bool, w truth) *store.Store {
	t.Helper()
	x, e := mend.Open(b, write)
	if e != api.OK || x == nil {
		t.Fatalf("%s: Open: error %d", what, e)
	}
	has(t, what, x, w)
	return x
}

// has fails if a store doesn't have what w says.
func has(t *testing.T, what string, x *store.Store, w truth) {
	t.Helper()
	if x.Len() != len(w.epochs) || x.Root() != w.root() {
		t.Errorf("%s: %d sealed blocks, root %x", what, x.Len(), x.Root())
	}
	for k, want := range w.plain {
		if got, e := x.Read(k); e != api.OK || !bytes.Equal(got, want) {
			t.Errorf("%s: Read of %d: error %d, %x", what, k, e, got)
		}
		if x.Epoch(k) != w.epochs[k] {
			t.Errorf("%s: epoch of %d: %d, not %d", what, k, x.Epoch(k), w.epochs[k])
		}
	}
}

// shut fails if Open doesn't answer e, or does something.
func shut(t *testing.T, what string, b store.Base, write bool, e api.Errno) {
	t.Helper()
	image, acts, used, r := b.D.Image(), len(b.D.Acts()), len(b.S.Used()), b.T.Read()
	if x, got := mend.Open(b, write); got != e || x != nil {
		t.Errorf("%s: Open: error %d, not %d; %v", what, got, e, x)
	}
	if len(b.D.Acts()) != acts || len(b.S.Used()) != used || b.T.Read() != r || !bytes.Equal(b.D.Image(), image) {
		t.Errorf("%s: Open did something", what)
	}
}

// entries are some with those numbers, of other bytes of each seed.
func entries(seed uint64, numbers ...int) []logf.Entry {
	var l []logf.Entry
	for _, k := range numbers {
		l = append(l, logf.Entry{K: k, Data: text(seed*1000+uint64(k), 256)})
	}
	return l
}

// picks are ways in which pending words last, or not.
func picks() [][]byte {
	return [][]byte{nil, {1}, {0, 1}, {1, 0}, {0, 0, 1}, {1, 1, 0, 0, 0}, {0, 1, 1, 0, 1, 0, 0}}
}

// geos are geometries that may not be, or are not those of a device of g.
func geos(g api.Geo) []api.Geo {
	return []api.Geo{{}, {Pages: -1, Tx: g.Tx}, {Pages: 0, Tx: g.Tx}, {Pages: 65, Tx: g.Tx}, {Pages: g.Pages, Tx: 3}, {Pages: g.Pages, Tx: 25},
		{Pages: math.MaxInt, Tx: math.MaxInt}, {Pages: math.MinInt, Tx: math.MinInt}, {Pages: g.Pages, Tx: g.Tx - 1}, {Pages: g.Pages, Tx: g.Tx + 1}}
}
