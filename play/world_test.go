package play_test

import (
	"bytes"
	"fmt"
	"math/rand/v2"
	"slices"
	"testing"

	"garderobe/aes"
	"garderobe/alloc"
	"garderobe/api"
	"garderobe/book"
	"garderobe/check"
	"garderobe/geom"
	"garderobe/gf"
	"garderobe/handle"
	"garderobe/heap"
	"garderobe/nvm"
	"garderobe/play"
	"garderobe/script"
	"garderobe/seal"
	"garderobe/sha"
	"garderobe/store"
	"garderobe/trust"
)

// text is n bytes, others of each seed.
func text(seed uint64, n int) []byte {
	r, b := rand.New(rand.NewPCG(seed, 28)), make([]byte, n)
	for k := range b {
		b[k] = byte(r.Uint32())
	}
	return b
}

// setup is one whose register holds noughts.
func setup(pages, tx int) play.Setup {
	return play.Setup{G: api.Geo{Pages: pages, Tx: tx}, Key: text(1, 32)}
}

// Acts, by the words.
func just(kind int) script.Act         { return script.Act{Kind: kind} }
func opens(write bool) script.Act      { return script.Act{Kind: script.Open, Yes: write} }
func allocs(n int) script.Act          { return script.Act{Kind: script.Alloc, N: n} }
func frees(which int) script.Act       { return script.Act{Kind: script.Free, Which: which} }
func reallocs(which, n int) script.Act { return script.Act{Kind: script.Realloc, Which: which, N: n} }
func reads(which, at, n int) script.Act {
	return script.Act{Kind: script.Read, Which: which, At: at, N: n}
}
func sets(k, which int) script.Act        { return script.Act{Kind: script.Set, K: k, Which: which} }
func unsets(k int) script.Act             { return script.Act{Kind: script.Set, K: k, Yes: true} }
func roots(k int) script.Act              { return script.Act{Kind: script.Root, K: k} }
func sizes(which int) script.Act          { return script.Act{Kind: script.Size, Which: which} }
func crashes(picks ...byte) script.Act    { return script.Act{Kind: script.Crash, B: picks} }
func tampers(at int, b []byte) script.Act { return script.Act{Kind: script.Tamper, At: at, B: b} }
func arms(n int, picks ...byte) script.Act {
	return script.Act{Kind: script.Arm, N: n, B: picks}
}
func writes(which, at int, b ...byte) script.Act {
	return script.Act{Kind: script.Write, Which: which, At: at, B: b}
}

// begun are the acts that make a heap of which a transaction is open.
func begun() []script.Act {
	return []script.Act{just(script.Format), opens(true), just(script.Begin)}
}

// made is a world in which acts were done, all of which were OK.
func made(t *testing.T, s play.Setup, l ...script.Act) *play.World {
	t.Helper()
	w, e := play.New(s)
	if e != api.OK || w == nil {
		t.Fatal("New", e)
	}
	good(t, w, l...)
	return w
}

// good does acts, and fails unless all are OK; it tells what the last one answers.
func good(t *testing.T, w *play.World, l ...script.Act) play.Answer {
	t.Helper()
	var out play.Answer
	for k, a := range l {
		if out = w.Do(a); out.E != api.OK {
			t.Fatalf("act %d, %+v: error %d", k, a, out.E)
		}
	}
	return out
}

// is fails unless an act answers just this.
func is(t *testing.T, what string, got, want play.Answer) {
	t.Helper()
	if told(got) != told(want) {
		t.Errorf("%s: %s, not %s", what, told(got), told(want))
	}
}

// fails is an answer that has an error, and nothing else.
func fails(e api.Errno) play.Answer { return play.Answer{E: e} }

// told is all of an answer as a text.
func told(a play.Answer) string { return fmt.Sprintf("%d %x %x %v", a.E, a.V, a.B, a.Stat) }

// held is all that an open heap has: objects with their bytes, roots, how things stand.
func held(t *testing.T, w *play.World) string {
	t.Helper()
	h := w.Heap()
	s, e := h.Stat()
	out := fmt.Sprint(s, e)
	l, _ := h.Walk()
	for _, x := range l {
		b, e := h.Read(x.H, 0, x.N)
		out += fmt.Sprintf(" %x: %x %d", x.H, b, e)
	}
	for k := range api.MaxRoots {
		x, e := h.Root(k)
		out += fmt.Sprintf(" %x %d", x, e)
	}
	return out
}

// shot is all of a world that can be seen without reading from its heap.
func shot(b store.Base, h *heap.Heap) string {
	n, twice := b.S.Twice()
	out := fmt.Sprint(b.T.Read(), b.D.Down(), b.D.Pending(), len(b.D.Acts()), b.B.Len(), b.S.Used(), n, twice, h.State())
	now := h.Now()
	out += fmt.Sprint(now.Meta(), now == nil)
	if now != nil {
		for _, k := range now.Batch().Keys() {
			data, _ := now.Batch().Get(k)
			out += fmt.Sprintf(" %d: %x", k, data)
		}
	}
	return out
}

// alike fails unless two heaps with what they stand on are alike.
func alike(t *testing.T, what string, a, b store.Base, h, i *heap.Heap) {
	t.Helper()
	if x, y := shot(a, h), shot(b, i); x != y {
		t.Fatalf("%s: it stands\n%s\nnot\n%s", what, x, y)
	}
	if !bytes.Equal(a.D.Image(), b.D.Image()) || !slices.Equal(a.D.Acts(), b.D.Acts()) {
		t.Fatalf("%s: the devices are not alike", what)
	}
}

// other is a world by the words: a heap that calls are made of one by one.
type other struct {
	base store.Base
	heap *heap.Heap
}

// newOther is one by the words.
func newOther(t *testing.T, s play.Setup) *other {
	t.Helper()
	c, e := aes.New(gf.NewBox(), s.Key)
	if e != api.OK {
		t.Fatal("the key", e)
	}
	d := nvm.New(4 * geom.Total(s.G))
	b := store.Base{D: d, T: trust.At(d, api.Reg{Count: s.Count}), S: seal.New(c), B: book.New(sha.Make()), G: s.G}
	h, e := heap.New(b)
	if e != api.OK {
		t.Fatal("the heap", e)
	}
	return &other{b, h}
}

// object is an act's object: the heap's Walk is called.
func (o *other) object(which int) handle.Handle {
	l, e := o.heap.Walk()
	if e != api.OK || which >= len(l) {
		return 0
	}
	return l[which].H
}

// do does an act that may be, by the words.
func (o *other) do(a script.Act) (out play.Answer) {
	var x handle.Handle
	switch a.Kind {
	case script.Free, script.Realloc, script.Write, script.Set, script.Read, script.Size:
		x = o.object(a.Which)
	}
	switch a.Kind {
	case script.Format:
		out.E = o.heap.Format()
	case script.Open:
		out.E = o.heap.Open(a.Yes)
	case script.Close:
		out.E = o.heap.Close()
	case script.Begin:
		out.E = o.heap.Begin()
	case script.Commit:
		out.E = o.heap.Commit()
	case script.Abort:
		out.E = o.heap.Abort()
	case script.Alloc:
		x, out.E = o.heap.Alloc(a.N)
		out.V = uint64(x)
	case script.Free:
		out.E = o.heap.Free(x)
	case script.Realloc:
		x, out.E = o.heap.Realloc(x, a.N)
		out.V = uint64(x)
	case script.Write:
		out.E = o.heap.Write(x, a.At, a.B)
	case script.Read:
		out.B, out.E = o.heap.Read(x, a.At, a.N)
	default:
		return o.rest(a, x)
	}
	return out
}

// rest does an act of the kinds behind Read.
func (o *other) rest(a script.Act, x handle.Handle) (out play.Answer) {
	switch a.Kind {
	case script.Set:
		if a.Yes {
			x = 0
		}
		out.E = o.heap.Set(a.K, x)
	case script.Root:
		x, out.E = o.heap.Root(a.K)
		out.V = uint64(x)
	case script.Size:
		var n int
		n, out.E = o.heap.Size(x)
		out.V = uint64(n)
	case script.Stat:
		out.Stat, out.E = o.heap.Stat()
	case script.Check:
		if out.E = o.heap.State(); out.E == api.OK {
			var l []check.Fault
			l, out.E = check.All(o.heap.Now(), o.base.G)
			out.V = uint64(len(l))
		}
	case script.Crash:
		o.base.D.Crash(a.B...)
		if o.heap.State() != api.ErrClosed {
			o.heap.Close()
		}
	case script.Arm:
		o.base.D.Arm(a.N, a.B...)
	case script.On:
		o.base.D.On()
	case script.Tamper:
		if !o.base.D.Tamper(a.At, a.B) {
			out.E = api.ErrRange
		}
	}
	return out
}

// stat is an answer that tells how things stand.
func stat(s alloc.Stat) play.Answer { return play.Answer{Stat: s} }
