package check_test

import (
	"encoding/binary"
	"slices"
	"sync"
	"testing"

	"garderobe/aes"
	"garderobe/alloc"
	"garderobe/api"
	"garderobe/batch"
	"garderobe/book"
	"garderobe/geom"
	"garderobe/gf"
	"garderobe/mend"
	"garderobe/nvm"
	"garderobe/seal"
	"garderobe/sha"
	"garderobe/store"
	"garderobe/trust"
)

var (
	table  = sync.OnceValue(sha.Make)
	cipher = sync.OnceValue(func() *aes.Cipher {
		c, _ := aes.New(gf.NewBox(), slices.Repeat([]byte{25}, 32))
		return c
	})
)

// made is a base behind a Format.
func made(t *testing.T, g api.Geo) store.Base {
	t.Helper()
	d := nvm.New(geom.Bytes(geom.Total(g)) / api.Line)
	b := store.Base{D: d, T: trust.New(d), S: seal.New(cipher()), B: book.New(table()), G: g}
	if e := mend.Format(b); e != api.OK {
		t.Fatal("Format", e)
	}
	return b
}

// over is objects over a base, opened anew, whose batch may have so many blocks.
func over(t *testing.T, b store.Base, most int) *alloc.Alloc {
	t.Helper()
	s, e := mend.Open(b, true)
	if e != api.OK {
		t.Fatal("Open", e)
	}
	a, e := alloc.New(batch.New(s, most), b.G)
	if e != api.OK {
		t.Fatal("New", e)
	}
	return a
}

// fresh is objects of a new store, whose batch may have all blocks.
func fresh(t *testing.T, g api.Geo) *alloc.Alloc {
	t.Helper()
	return over(t, made(t, g), 100)
}

// spoil turns a bit of a sealed block on the device.
func spoil(b store.Base, k int) {
	at := geom.Bytes(geom.SealedAt(b.G, k)) + 7
	x, _ := b.D.Load(at, 1)
	b.D.Tamper(at, []byte{x[0] ^ 4})
}

// wasRead tells whether a store has read a block that was spoilt: its text was summed then.
func wasRead(b store.Base, k int) bool {
	n := geom.SealedAt(b.G, k)
	data, _ := b.D.Load(geom.Bytes(n), wide)
	many := b.B.Len()
	b.B.Sum(book.Leaf, binary.LittleEndian.AppendUint32(nil, uint32(n)), data)
	return b.B.Len() == many
}
