package audit_test

import (
	"bytes"
	"math"
	"math/rand/v2"
	"testing"

	"garderobe/aes"
	"garderobe/api"
	"garderobe/audit"
	"garderobe/book"
	"garderobe/geom"
	"garderobe/gf"
	"garderobe/logf"
	"garderobe/mend"
	"garderobe/nvm"
	"garderobe/seal"
	"garderobe/sha"
	"garderobe/store"
	"garderobe/trust"
)

// text is n bytes, others of each seed.
func text(seed uint64, n int) []byte {
	r, b := rand.New(rand.NewPCG(seed, 32)), make([]byte, n)
	for k := range b {
		b[k] = byte(r.Uint32())
	}
	return b
}

// plans are geometries with one, two and three epoch blocks, with few and many blocks to a transaction.
func plans() []api.Geo {
	return []api.Geo{{Pages: 1, Tx: 4}, {Pages: 20, Tx: 4}, {Pages: 30, Tx: 6}, {Pages: 64, Tx: 24}}
}

// small is a geometry of few blocks.
func small() api.Geo { return plans()[0] }

// geos are geometries that may not be, or are not those of a device of g.
func geos(g api.Geo) []api.Geo {
	return []api.Geo{{}, {Pages: -1, Tx: g.Tx}, {Pages: 0, Tx: g.Tx}, {Pages: 65, Tx: g.Tx}, {Pages: g.Pages, Tx: 3}, {Pages: g.Pages, Tx: 25},
		{Pages: math.MaxInt, Tx: math.MaxInt}, {Pages: math.MinInt, Tx: math.MinInt}, {Pages: g.Pages, Tx: g.Tx - 1}, {Pages: g.Pages, Tx: g.Tx + 1}}
}

// on is a base on whose device bytes stand.
func on(g api.Geo, r api.Reg, image []byte) store.Base {
	c, _ := aes.New(gf.NewBox(), text(99, 16))
	d := nvm.New(4 * geom.Total(g))
	d.Tamper(0, image)
	return store.Base{D: d, T: trust.At(d, r), S: seal.New(c), B: book.New(sha.Make()), G: g}
}

// twin is a base that stands as another one does, with a sealer and a book of its own.
func twin(b store.Base) store.Base { return on(b.G, b.T.Read(), b.D.Image()) }

// made is a base that was formatted, and the store of it, into which many blocks were committed.
func made(t *testing.T, g api.Geo) (store.Base, *store.Store) {
	t.Helper()
	b := on(g, api.Reg{}, text(1, 256*geom.Total(g)))
	if e := mend.Format(b); e != api.OK {
		t.Fatal("Format", e)
	}
	x, e := mend.Open(b, true)
	if e != api.OK {
		t.Fatal("Open", e)
	}
	for k := range geom.Sealed(g) {
		if e := x.Commit(entries(uint64(k), k)...); e != api.OK {
			t.Fatal("Commit", e)
		}
	}
	return b, x
}

// entries are some with those numbers, of other bytes of each seed.
func entries(seed uint64, numbers ...int) []logf.Entry {
	var l []logf.Entry
	for _, k := range numbers {
		l = append(l, logf.Entry{K: k, Data: text(seed*1000+uint64(k), 256)})
	}
	return l
}

// cut is a base in whose last Commit the power went at an act, and is on again.
func cut(t *testing.T, g api.Geo, act int, picks ...byte) store.Base {
	t.Helper()
	b, x := made(t, g)
	b.D.Arm(act, picks...)
	if e := x.Commit(entries(77, 0, 2)...); e != api.ErrDown {
		t.Fatalf("Commit, cut off at %d: error %d", act, e)
	}
	b.D.On()
	return b
}

// turned is a base in which a byte of the device was turned.
func turned(b store.Base, at int) store.Base {
	b.D.Tamper(at, []byte{b.D.Image()[at] ^ 0x40})
	return b
}

// begun is a look of a base, which has no blocks yet.
func begun(t *testing.T, b store.Base) *audit.Audit {
	t.Helper()
	a, e := audit.New(b)
	if a == nil || e != api.OK {
		t.Fatal("New", e)
	}
	return a
}

// whole is a look of a base that has all.
func whole(t *testing.T, b store.Base) *audit.Audit {
	t.Helper()
	a := begun(t, b)
	steps(t, a, math.MaxInt, 0, api.OK)
	return a
}

// steps fails if a Step doesn't answer so.
func steps(t *testing.T, a *audit.Audit, n, left int, e api.Errno) {
	t.Helper()
	if got, f := a.Step(n); got != left || f != e {
		t.Errorf("Step(%d): %d, error %d; not %d, %d", n, got, f, left, e)
	}
}

// finds fails if Found doesn't answer so.
func finds(t *testing.T, what string, a *audit.Audit, kind int, e api.Errno) {
	t.Helper()
	if got, f := a.Found(); got != kind || f != e {
		t.Errorf("%s: Found %d, error %d; not %d, %d", what, got, f, kind, e)
	}
}

// still fails if a call did something to a base; what it was is told by its twin.
func still(t *testing.T, what string, b, was store.Base, acts int) {
	t.Helper()
	if len(b.D.Acts()) != acts || b.T.Read() != was.T.Read() || b.D.Pending() != 0 || !bytes.Equal(b.D.Image(), was.D.Image()) {
		t.Errorf("%s did something", what)
	}
}

// nils are bases that lack one of the four, or all.
func nils(b store.Base) []store.Base {
	l := []store.Base{b, b, b, b, {G: b.G}, {}}
	l[0].D, l[1].T, l[2].S, l[3].B = nil, nil, nil, nil
	return l
}

// strange are bases whose geometry may not be, or whose device has not its blocks.
func strange(b store.Base) []store.Base {
	var l []store.Base
	for _, g := range geos(b.G) {
		other := b
		other.G = g
		l = append(l, other)
	}
	n := 4 * geom.Total(b.G)
	for _, lines := range []int{0, 1, n - 4, n - 1, n + 1, n + 4, 1024} {
		other := b
		other.D = nvm.New(lines)
		l = append(l, other)
	}
	other := b
	other.D = &nvm.Device{}
	return append(l, other)
}
