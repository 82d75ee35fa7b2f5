package verdict_test

import (
	"testing"

	"garderobe/aes"
	"garderobe/api"
	"garderobe/book"
	"garderobe/geom"
	"garderobe/gf"
	"garderobe/mend"
	"garderobe/nvm"
	"garderobe/seal"
	"garderobe/sha"
	"garderobe/store"
	"garderobe/trust"
	"garderobe/verdict"
)

// formatted is a base of noughts, and its blocks, the log's behind the leaves.
func formatted(t *testing.T) (store.Base, [][]byte) {
	t.Helper()
	g := api.Geo{Pages: 1, Tx: 4}
	c, _ := aes.New(gf.NewBox(), make(api.Key, 16))
	d := nvm.New(4 * geom.Total(g))
	b := store.Base{D: d, T: trust.New(d), S: seal.New(c), B: book.New(sha.Make()), G: g}
	if e := mend.Format(b); e != api.OK {
		t.Fatal("Format", e)
	}
	var l [][]byte
	for k := range geom.Total(g) {
		data, _ := d.Load(256*k, 256)
		l = append(l, data)
	}
	return b, l
}

// What layer 16 says is told of as many blocks as there are to be; others are wrong.
func TestFind(t *testing.T) {
	b, l := formatted(t)
	n := geom.Leaves(b.G)
	for k := range len(l) + 1 {
		want := verdict.Wrong
		if k == n {
			want = verdict.Whole
		}
		c := verdict.Case{Base: b, Blocks: l[:k]}
		if got := c.Find(l[k:]...); got != want {
			t.Errorf("%d blocks: %d, not %d", k, got, want)
		}
	}
	c := verdict.Case{Base: b, Blocks: append([][]byte{}, l[:n]...)}
	if c.Find() != verdict.Whole || c.Tree.Root() != b.T.Read().Root || len(c.Epochs) != geom.Sealed(b.G) {
		t.Error("what is trusted")
	}
	c.Blocks[1] = nil
	if got := c.Find(l[n:]...); got != verdict.Wrong {
		t.Error("a block of epochs that can't be read", got)
	}
	none := verdict.Case{}
	if none.Find() != verdict.Wrong || none.Sum() != api.ErrNil {
		t.Error("of nothing")
	}
}

// The numbers, and why a base may not be, are those of layer 16.
func TestRefuses(t *testing.T) {
	b, _ := formatted(t)
	if verdict.Whole != 1 || verdict.Redone != 2 || verdict.Wrong != 3 {
		t.Error("numbers")
	}
	other := b
	other.G.Tx++
	for _, x := range []store.Base{b, {}, other} {
		_, want := mend.Look(x)
		if got := verdict.Refuses(x); got != want {
			t.Errorf("%d, not %d", got, want)
		}
	}
}
