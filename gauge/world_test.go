package gauge_test

import (
	"encoding/binary"
	"slices"
	"sync"
	"testing"

	"garderobe/aes"
	"garderobe/alloc"
	"garderobe/api"
	"garderobe/batch"
	"garderobe/book"
	"garderobe/gauge"
	"garderobe/geom"
	"garderobe/gf"
	"garderobe/mend"
	"garderobe/nvm"
	"garderobe/seal"
	"garderobe/sha"
	"garderobe/store"
	"garderobe/trust"
)

// By the words: what a page has, the most bytes of an object, kinds of pages, the classes' bytes.
const (
	wide              = 256
	most              = 4096
	free, slots, head = 0, 1, 2
)

func sizes() []int { return []int{8, 16, 24, 32, 48, 64, 96, 120} }

// slotsOf is how many slots of a class stand in a page.
func slotsOf(c int) int { return wide / (sizes()[c] + 8) }

var (
	table  = sync.OnceValue(sha.Make)
	cipher = sync.OnceValue(func() *aes.Cipher {
		c, _ := aes.New(gf.NewBox(), slices.Repeat([]byte{26}, 16))
		return c
	})
)

// made is a base behind a Format.
func made(t *testing.T, g api.Geo) store.Base {
	t.Helper()
	d := nvm.New(geom.Bytes(geom.Total(g)) / api.Line)
	b := store.Base{D: d, T: trust.New(d), S: seal.New(cipher()), B: book.New(table()), G: g}
	if e := mend.Format(b); e != api.OK {
		t.Fatal("Format", e)
	}
	return b
}

// over is objects over a base, opened anew, whose batch may have so many blocks.
func over(t *testing.T, b store.Base, many int) *alloc.Alloc {
	t.Helper()
	s, e := mend.Open(b, true)
	if e != api.OK {
		t.Fatal("Open", e)
	}
	a, e := alloc.New(batch.New(s, many), b.G)
	if e != api.OK {
		t.Fatal("New", e)
	}
	return a
}

// fresh is objects of a new store of n pages, whose batch may have all blocks.
func fresh(t *testing.T, n int) *alloc.Alloc {
	t.Helper()
	return over(t, made(t, api.Geo{Pages: n, Tx: 4}), 100)
}

// with is fresh objects with one of each of these sizes.
func with(t *testing.T, n int, l ...int) *alloc.Alloc {
	t.Helper()
	a := fresh(t, n)
	for _, n := range l {
		if _, e := a.Alloc(n); e != api.OK {
			t.Fatalf("Alloc of %d: error %d", n, e)
		}
	}
	return a
}

// frees frees the objects of these places in Walk.
func frees(t *testing.T, a *alloc.Alloc, l ...int) {
	t.Helper()
	items, _ := a.Walk()
	for _, k := range l {
		if e := a.Free(items[k].H); e != api.OK {
			t.Fatalf("Free of %d: error %d", k, e)
		}
	}
}

// seen is the room that the blocks of n pages have, byte by byte.
func seen(t *testing.T, a *alloc.Alloc, n int) gauge.Room {
	t.Helper()
	get := func(k int) []byte {
		b, e := a.Batch().Get(k)
		if e != api.OK {
			t.Fatal("Get", k, e)
		}
		return b
	}
	var r gauge.Room
	maps, run := (n+15)/16, 0
	for at := range n {
		p := get(1 + at/16)[at%16*16:]
		run++
		if p[0] != free {
			run = 0
		} else {
			r.Free++
		}
		r.Longest = max(r.Longest, run)
		if p[0] == slots {
			b := get(1 + maps + at)
			for k := range slotsOf(int(p[1])) {
				if binary.LittleEndian.Uint64(b[k*(sizes()[p[1]]+8):]) == 0 {
					r.Slots[p[1]]++
				}
			}
		}
	}
	return r
}

// has fails unless objects have just this room.
func has(t *testing.T, what string, a *alloc.Alloc, want gauge.Room) {
	t.Helper()
	if r, e := gauge.Of(a); e != api.OK || r != want {
		t.Errorf("%s: %v, error %d; not %v", what, r, e, want)
	}
	if r := seen(t, a, len(a.Meta().Pages)); r != want {
		t.Errorf("%s: byte by byte %v, not %v", what, r, want)
	}
}
