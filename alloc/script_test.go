package alloc_test

import (
	"bytes"
	"fmt"
	"math/rand/v2"
	"slices"
	"testing"

	"garderobe/alloc"
	"garderobe/api"
	"garderobe/batch"
	"garderobe/book"
	"garderobe/geom"
	"garderobe/mend"
	"garderobe/nvm"
	"garderobe/seal"
	"garderobe/store"
	"garderobe/trust"
)

// script is objects over a store that was made by layer 16, and what is to be there.
type script struct {
	t    *testing.T
	base store.Base
	s    *store.Store
	a    *alloc.Alloc
	m    *model
	keys []int // the blocks that the batch has
}

// made is a base behind a Format.
func made(t *testing.T, g api.Geo) store.Base {
	t.Helper()
	d := nvm.New(geom.Bytes(geom.Total(g)) / api.Line)
	b := store.Base{D: d, T: trust.New(d), S: seal.New(cipher()), B: book.New(table()), G: g}
	if e := mend.Format(b); e != api.OK {
		t.Fatal("Format", e)
	}
	return b
}

// over is objects over a base, opened anew.
func over(t *testing.T, b store.Base, most int) (*alloc.Alloc, *store.Store) {
	t.Helper()
	s, e := mend.Open(b, true)
	if e != api.OK {
		t.Fatal("Open", e)
	}
	a, e := alloc.New(batch.New(s, most), b.G)
	if e != api.OK {
		t.Fatal("New", e)
	}
	return a, s
}

// started is a script without objects.
func started(t *testing.T, g api.Geo) *script {
	t.Helper()
	x := &script{t: t, base: made(t, g), m: blank(g.Pages)}
	x.a, x.s = over(t, x.base, g.Tx)
	return x
}

// do does a call, and holds all against the model.
func (x *script) do(c call) answer {
	x.t.Helper()
	want, after, events := c.by(x.m)
	keys := slices.Clone(x.keys)
	for _, e := range events {
		if e.put && !slices.Contains(keys, e.k) {
			keys = append(keys, e.k)
		}
	}
	slices.Sort(keys)
	switch {
	case want.e != api.OK:
	case len(keys) > x.base.G.Tx:
		want = answer{e: api.ErrTxFull, items: none(c)}
	default:
		x.m, x.keys = after, keys
		x.m.events = nil
	}
	if got := c.on(x.a); got != want {
		x.t.Fatalf("%v: %v, not %v", c, got, want)
	}
	x.stands(c.String())
	return want
}

// stands fails unless all is as in the model.
func (x *script) stands(what string) {
	x.t.Helper()
	if got, want := shoot(x.a), x.m.stands(x.keys); got != want {
		x.t.Fatalf("%s: it stands\n%v\nnot\n%v", what, got, want)
	}
}

// whole fails unless all objects are there, byte by byte.
func (x *script) whole(what string, a *alloc.Alloc) {
	x.t.Helper()
	for _, kind := range []string{"Walk", "Stat"} {
		want, _, _ := call{kind: kind}.by(x.m)
		if got := (call{kind: kind}).on(a); got != want {
			x.t.Fatalf("%s: %s: %v, not %v", what, kind, got, want)
		}
	}
	for _, h := range x.m.objects() {
		_, _, o := x.m.copy().find(h)
		if b, e := a.Read(h, 0, len(o.data)); e != api.OK || !bytes.Equal(b, o.data) {
			x.t.Fatalf("%s: Read of %x: error %d, %x, not %x", what, h, e, b, o.data)
		}
	}
	for k := range x.m.blocks {
		if b, e := a.Batch().Get(k); e != api.OK || !bytes.Equal(b, x.m.blocks[k]) {
			x.t.Fatalf("%s: block %d: error %d, %x, not %x", what, k, e, b, x.m.blocks[k])
		}
	}
}

// commit puts in all that was changed.
func (x *script) commit() {
	x.t.Helper()
	if e := x.a.Batch().Commit(); e != api.OK {
		x.t.Fatal("Commit", e)
	}
	x.keys = nil
	x.stands("committed")
}

// reopened fails unless the base, opened anew, has what is to be there.
func (x *script) reopened() {
	x.t.Helper()
	x.a, x.s = over(x.t, x.base, x.base.G.Tx)
	x.stands("opened anew")
	x.whole("opened anew", x.a)
}

// fork does calls on a copy; neither sees what is done to the other one.
func (x *script) fork(r *rand.Rand) {
	x.t.Helper()
	o := *x
	o.a, o.m = x.a.Copy(), x.m.copy()
	o.stands("a copy")
	for range 8 {
		o.do(o.m.chance(r, kinds()[r.IntN(5)]))
	}
	x.stands("its copy was changed")
	x.do(x.m.chance(r, "Alloc"))
	o.stands("the copied one was changed")
	o.whole("the copied one was changed", o.a)
}

// P23.1 to P23.7: scripts of calls, one behind the other, with commits, copies and stores opened anew; at last all is freed.
func TestScripts(t *testing.T) {
	for seed := range uint64(60) {
		t.Run(fmt.Sprint(seed), func(t *testing.T) {
			t.Parallel()
			r := rand.New(rand.NewPCG(seed, 2))
			x := started(t, api.Geo{Pages: []int{1, 2, 3, 6, 12, 16, 17, 30, 64}[r.IntN(9)], Tx: 4 + r.IntN(21)})
			for range 150 {
				kind := kinds()[r.IntN(len(kinds()))]
				if r.IntN(4) == 0 {
					kind = "Alloc"
				}
				x.do(x.m.chance(r, kind))
				switch r.IntN(30) {
				case 0, 1, 2:
					x.commit()
				case 3:
					x.fork(r)
				case 4:
					x.commit()
					x.reopened()
				case 5:
					x.whole("as it stands", x.a)
				}
			}
			x.emptied()
		})
	}
}

// emptied frees all objects: all pages are free then, and noughts, and so are the maps.
func (x *script) emptied() {
	x.t.Helper()
	x.commit()
	for _, h := range x.m.objects() {
		if want := x.do(call{kind: "Free", h: h}); want.e == api.ErrTxFull {
			x.commit()
			if x.do(call{kind: "Free", h: h}).e == api.ErrTxFull { // more pages than a transaction may have
				return
			}
		}
	}
	x.noughts("all freed")
	x.commit()
	x.reopened()
	x.noughts("all freed, and opened anew")
}

// noughts fails unless all blocks are, but for the head's.
func (x *script) noughts(what string) {
	x.t.Helper()
	for k := 1; k < len(x.m.blocks); k++ {
		if b, e := x.a.Batch().Get(k); e != api.OK || !bytes.Equal(b, make([]byte, wide)) {
			x.t.Errorf("%s: block %d: error %d, %x", what, k, e, b)
		}
	}
	st, e := x.a.Stat()
	if want := (alloc.Stat{Free: x.base.G.Pages}); e != api.OK || st != want {
		x.t.Errorf("%s: %v, error %d", what, st, e)
	}
	for k := range 16 {
		if h, e := x.a.Root(k); e != api.OK || h != 0 {
			x.t.Errorf("%s: root %d is %x, error %d", what, k, h, e)
		}
	}
}
