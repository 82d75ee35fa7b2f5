package alloc_test

import (
	"bytes"
	"encoding/binary"
	"fmt"
	"maps"
	"math/rand/v2"
	"slices"
	"sync"
	"testing"

	"garderobe/aes"
	"garderobe/alloc"
	"garderobe/api"
	"garderobe/batch"
	"garderobe/book"
	"garderobe/geom"
	"garderobe/gf"
	"garderobe/handle"
	"garderobe/meta"
	"garderobe/nvm"
	"garderobe/pages"
	"garderobe/seal"
	"garderobe/sha"
	"garderobe/store"
	"garderobe/super"
	"garderobe/tree"
	"garderobe/trust"
)

// text is n bytes, others of each seed.
func text(seed uint64, n int) []byte {
	r, b := rand.New(rand.NewPCG(seed, 23)), make([]byte, n)
	for k := range b {
		b[k] = byte(r.Uint32())
	}
	return b
}

var (
	table  = sync.OnceValue(sha.Make)
	cipher = sync.OnceValue(func() *aes.Cipher {
		c, _ := aes.New(gf.NewBox(), text(99, 16))
		return c
	})
)

// world is a device on which sealed blocks stand, and what is trusted of them.
type world struct {
	t      *testing.T
	g      api.Geo
	base   store.Base
	epochs []uint64
	tree   *tree.Tree
	image  []byte
}

// begin is a world whose sealed blocks are those.
func begin(t *testing.T, g api.Geo, plain [][]byte) *world {
	t.Helper()
	w := &world{t: t, g: g, epochs: slices.Repeat([]uint64{7}, len(plain))}
	d := nvm.New(geom.Bytes(geom.Total(g)) / api.Line)
	w.base = store.Base{D: d, S: seal.New(cipher()), B: book.New(table()), G: g}
	first, _ := super.Bytes(g)
	l := [][]byte{first}
	for k := range geom.Epochs(g) {
		b, _ := super.Block(g, k, w.epochs)
		l = append(l, b)
	}
	for k, data := range plain {
		b, e := w.base.S.Seal(7, k, data)
		if e != api.OK {
			t.Fatal("Seal", e)
		}
		l = append(l, b)
	}
	var leaves []api.Digest
	for k, data := range l {
		leaves = append(leaves, tree.Sum(w.base.B, k, data))
	}
	w.tree, _ = tree.New(w.base.B, leaves...)
	w.image = append(bytes.Join(l, nil), make([]byte, geom.Bytes(geom.Total(g)-len(l)))...)
	w.base.T = trust.At(d, api.Reg{Count: 8, Root: w.tree.Root()})
	return w
}

// run is objects over a store of a world, with a book of its own.
type run struct {
	*world
	s     *store.Store
	b     *batch.Batch
	a     *alloc.Alloc
	book  *book.Book
	spoil map[int]bool
}

// open is a run over the device as it was at first, whose batch has these blocks already, and may have so many.
func (w *world) open(have map[int][]byte, most int) *run {
	w.t.Helper()
	w.base.D.On()
	w.base.D.Tamper(0, w.image)
	b := w.base
	b.B = book.New(table())
	s, e := store.New(b, w.epochs, w.tree, true)
	if e != api.OK {
		w.t.Fatal("store", e)
	}
	r := &run{world: w, s: s, b: batch.New(s, most), book: b.B, spoil: map[int]bool{}}
	for k, data := range have {
		if e := r.b.Put(k, data); e != api.OK {
			w.t.Fatal("Put", k, e)
		}
	}
	if r.a, e = alloc.New(r.b, w.g); e != api.OK {
		w.t.Fatal("New", e)
	}
	return r
}

// spoils turns a bit of each of these sealed blocks on the device.
func (r *run) spoils(l ...int) {
	for _, k := range l {
		if !r.spoil[k] {
			r.spoil[k] = true
			r.base.D.Tamper(r.at(k)+5, []byte{r.image[r.at(k)+5] ^ 32})
		}
	}
}

// spoilsBut spoils all sealed blocks but these.
func (r *run) spoilsBut(l []int) {
	for k := range r.epochs {
		if !slices.Contains(l, k) {
			r.spoils(k)
		}
	}
}

// at is where a sealed block's bytes stand.
func (r *run) at(k int) int { return geom.Bytes(geom.SealedAt(r.g, k)) }

// was tells which spoilt blocks the store read: their texts were summed.
func (r *run) was() []int {
	var l []int
	for _, k := range slices.Sorted(maps.Keys(r.spoil)) {
		data, _ := r.base.D.Load(r.at(k), wide)
		n := r.book.Len()
		r.book.Sum(book.Leaf, binary.LittleEndian.AppendUint32(nil, uint32(geom.SealedAt(r.g, k))), data)
		if r.book.Len() == n {
			l = append(l, k)
		}
	}
	return l
}

// shot is all that can be seen of objects without reading the store.
type shot struct {
	meta string
	keys string
	data string
}

// shoot takes down how objects stand.
func shoot(a *alloc.Alloc) shot {
	m, b := a.Meta(), a.Batch()
	var data [][]byte
	for _, k := range b.Keys() {
		x, _ := b.Get(k)
		data = append(data, x)
	}
	return shot{fmt.Sprint(m), fmt.Sprint(b.Keys()), fmt.Sprintf("%x", data)}
}

// stands is what shoot is to tell of a model, if the batch has the blocks of those numbers.
func (m *model) stands(keys []int) shot {
	var data [][]byte
	for _, k := range keys {
		data = append(data, m.blocks[k])
	}
	return shot{fmt.Sprint(m.meta()), fmt.Sprint(keys), fmt.Sprintf("%x", data)}
}

// meta is what is known beside the objects.
func (m *model) meta() meta.Meta {
	out := meta.Meta{Roots: handle.Roots{Next: m.next, L: m.roots}}
	for _, x := range m.pages {
		p := pages.Page{Kind: x.kind}
		if x.kind == slots {
			p.Class = x.class
		}
		if x.kind == head {
			p.Run, p.Size, p.Serial = runOf(len(x.great.data)), len(x.great.data), x.great.serial
		}
		out.Pages = append(out.Pages, p)
	}
	return out
}
