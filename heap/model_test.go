package heap_test

import (
	"bytes"
	"fmt"
	"math/rand/v2"
	"slices"
	"sync"
	"testing"

	"garderobe/aes"
	"garderobe/alloc"
	"garderobe/api"
	"garderobe/batch"
	"garderobe/book"
	"garderobe/geom"
	"garderobe/gf"
	"garderobe/handle"
	"garderobe/heap"
	"garderobe/mend"
	"garderobe/nvm"
	"garderobe/seal"
	"garderobe/sha"
	"garderobe/store"
	"garderobe/trust"
)

// text is n bytes, others of each seed.
func text(seed uint64, n int) []byte {
	r, b := rand.New(rand.NewPCG(seed, 24)), make([]byte, n)
	for k := range b {
		b[k] = byte(r.Uint32())
	}
	return b
}

var (
	table  = sync.OnceValue(sha.Make)
	cipher = sync.OnceValue(func() *aes.Cipher {
		c, _ := aes.New(gf.NewBox(), text(99, 32))
		return c
	})
)

// blank is a base of noughts.
func blank(g api.Geo) store.Base {
	d := nvm.New(geom.Bytes(geom.Total(g)) / api.Line)
	return store.Base{D: d, T: trust.New(d), S: seal.New(cipher()), B: book.New(table()), G: g}
}

// on is a heap of a base.
func on(t *testing.T, b store.Base) *heap.Heap {
	t.Helper()
	h, e := heap.New(b)
	if e != api.OK || h == nil {
		t.Fatal("New", e)
	}
	return h
}

// call is one of a heap, or of a model.
type call struct {
	kind string
	x    handle.Handle
	k    int
	n    int
	at   int
	b    []byte
	yes  bool
}

func (c call) String() string {
	return fmt.Sprintf("%s(%x, k %d, n %d, at %d, %d bytes, %v)", c.kind, uint64(c.x), c.k, c.n, c.at, len(c.b), c.yes)
}

// answer is all that a call answers.
type answer struct {
	e     api.Errno
	x     handle.Handle
	n     int
	b     string
	items string
	stat  alloc.Stat
}

// told is an answer with some objects.
func told(l []alloc.Item, e api.Errno) answer { return answer{e: e, items: fmt.Sprintf("%v", l)} }

// all are all calls that answer an error.
func all() []string {
	return []string{"Format", "Open", "Close", "Begin", "Commit", "Abort", "State", "Alloc", "Free", "Realloc", "Write", "Set", "Read", "Size", "Root", "Walk", "Stat"}
}

// does does a call of a heap.
func (c call) does(h *heap.Heap) (out answer) {
	switch c.kind {
	case "Format":
		out.e = h.Format()
	case "Open":
		out.e = h.Open(c.yes)
	case "Close":
		out.e = h.Close()
	case "Begin":
		out.e = h.Begin()
	case "Commit":
		out.e = h.Commit()
	case "Abort":
		out.e = h.Abort()
	case "State":
		out.e = h.State()
	default:
		return c.of(h)
	}
	return out
}

// model is a heap by the words, over a base of its own.
type model struct {
	base  store.Base
	open  bool
	write bool
	s     *store.Store
	done  *alloc.Alloc
	tx    *alloc.Alloc
}

// first is what a call answers first.
func (m *model) first() api.Errno {
	if !m.open {
		return api.ErrClosed
	}
	return m.s.State()
}

// inside does a call of the transaction.
func (m *model) inside(do func(a *alloc.Alloc) answer) answer {
	if e := m.first(); e != api.OK {
		return answer{e: e}
	}
	if m.tx == nil {
		return answer{e: api.ErrNoTx}
	}
	return do(m.tx)
}

// by does a call of a model.
func (c call) by(m *model) answer {
	switch c.kind {
	case "Format":
		if m.open {
			return answer{e: api.ErrOpen}
		}
		return answer{e: mend.Format(m.base)}
	case "Open":
		return answer{e: m.opens(c.yes)}
	case "Close":
		if !m.open {
			return answer{e: api.ErrClosed}
		}
		m.open, m.done, m.tx = false, nil, nil
		return answer{}
	case "State":
		return answer{e: m.first()}
	case "Begin":
		return answer{e: m.begins()}
	case "Commit":
		return m.inside(func(a *alloc.Alloc) answer {
			e := a.Batch().Commit()
			if e == api.OK {
				m.done, m.tx = m.tx, nil
			}
			return answer{e: e}
		})
	case "Abort":
		return m.inside(func(a *alloc.Alloc) answer {
			m.tx = nil
			return answer{}
		})
	case "Alloc", "Free", "Realloc", "Write", "Set":
		return m.inside(func(a *alloc.Alloc) answer { return c.of(a) })
	}
	if e := m.first(); e != api.OK {
		if c.kind == "Walk" {
			return told(nil, e)
		}
		return answer{e: e}
	}
	return c.of(m.now())
}

// now are the objects of the transaction, or else those that were committed.
func (m *model) now() *alloc.Alloc {
	if m.tx != nil {
		return m.tx
	}
	return m.done
}

// opens opens the model.
func (m *model) opens(write bool) api.Errno {
	if m.open {
		return api.ErrOpen
	}
	s, e := mend.Open(m.base, write)
	if e != api.OK {
		return e
	}
	a, e := alloc.New(batch.New(s, m.base.G.Tx), m.base.G)
	if e != api.OK {
		return e
	}
	*m = model{base: m.base, open: true, write: write, s: s, done: a}
	return api.OK
}

// begins begins a transaction.
func (m *model) begins() api.Errno {
	if e := m.first(); e != api.OK {
		return e
	}
	if m.tx != nil {
		return api.ErrNested
	}
	if !m.write {
		return api.ErrReadOnly
	}
	if m.base.T.Read().Count == api.MaxCount {
		return api.ErrExhausted
	}
	m.tx = m.done.Copy()
	return api.OK
}

// objects are those of a heap, or of an Alloc.
type objects interface {
	Alloc(n int) (handle.Handle, api.Errno)
	Free(x handle.Handle) api.Errno
	Realloc(x handle.Handle, n int) (handle.Handle, api.Errno)
	Write(x handle.Handle, at int, b []byte) api.Errno
	Set(k int, x handle.Handle) api.Errno
	Read(x handle.Handle, at, n int) ([]byte, api.Errno)
	Size(x handle.Handle) (int, api.Errno)
	Root(k int) (handle.Handle, api.Errno)
	Walk() ([]alloc.Item, api.Errno)
	Stat() (alloc.Stat, api.Errno)
}

// of does a call of objects.
func (c call) of(a objects) (out answer) {
	switch c.kind {
	case "Alloc":
		out.x, out.e = a.Alloc(c.n)
	case "Free":
		out.e = a.Free(c.x)
	case "Realloc":
		out.x, out.e = a.Realloc(c.x, c.n)
	case "Write":
		out.e = a.Write(c.x, c.at, c.b)
	case "Set":
		out.e = a.Set(c.k, c.x)
	case "Read":
		var b []byte
		b, out.e = a.Read(c.x, c.at, c.n)
		out.b = string(b)
	case "Size":
		out.n, out.e = a.Size(c.x)
	case "Root":
		out.x, out.e = a.Root(c.k)
	case "Walk":
		return told(a.Walk())
	case "Stat":
		out.stat, out.e = a.Stat()
	}
	return out
}

// shot is all that can be seen of objects without reading the store.
func shot(a *alloc.Alloc) string {
	if a == nil {
		return "none"
	}
	out := fmt.Sprint(a.Meta(), a.Batch().Keys())
	for _, k := range a.Batch().Keys() {
		b, _ := a.Batch().Get(k)
		out += fmt.Sprintf(" %x", b)
	}
	return out
}

// pair is a heap and a model.
type pair struct {
	t    *testing.T
	base store.Base
	h    *heap.Heap
	m    *model
}

// paired is both over bases of noughts whose registers hold a count.
func paired(t *testing.T, g api.Geo, count uint64) *pair {
	t.Helper()
	b, o := blank(g), blank(g)
	b.T, o.T = trust.At(b.D, api.Reg{Count: count}), trust.At(o.D, api.Reg{Count: count})
	return &pair{t, b, on(t, b), &model{base: o}}
}

// do does a call of both, and fails unless they answer the same, and stand alike.
func (p *pair) do(c call) answer {
	p.t.Helper()
	want, got := c.by(p.m), c.does(p.h)
	if got != want {
		p.t.Fatalf("%v: %v, not %v", c, got, want)
	}
	p.alike(c.String())
	return want
}

// befalls does something to the devices of both.
func (p *pair) befalls(do func(d *nvm.Device)) {
	p.t.Helper()
	do(p.base.D)
	do(p.m.base.D)
	p.alike("the device")
}

// alike fails unless both stand alike.
func (p *pair) alike(what string) {
	p.t.Helper()
	a, b := p.base, p.m.base
	if a.T.Read() != b.T.Read() || a.D.Down() != b.D.Down() || a.D.Pending() != b.D.Pending() || !bytes.Equal(a.D.Image(), b.D.Image()) || !slices.Equal(a.D.Acts(), b.D.Acts()) {
		p.t.Fatalf("%s: the devices are not alike; counts %d, %d", what, a.T.Read().Count, b.T.Read().Count)
	}
	if a.B.Len() != b.B.Len() {
		p.t.Fatalf("%s: other blocks were read; %d texts, not %d", what, a.B.Len(), b.B.Len())
	}
	if e, f := p.h.State(), p.m.first(); e != f {
		p.t.Fatalf("%s: State %d, not %d", what, e, f)
	}
	now := p.m.now()
	if !p.m.open {
		now = nil
	}
	if got, want := shot(p.h.Now()), shot(now); got != want {
		p.t.Fatalf("%s: it stands\n%s\nnot\n%s", what, got, want)
	}
}
