package check_test

import (
	"fmt"
	"math/rand/v2"
	"slices"
	"testing"

	"garderobe/alloc"
	"garderobe/api"
	"garderobe/check"
	"garderobe/handle"
	"garderobe/heap"
)

// P25.1: of a nil one ErrNil, ahead of all else; of a geometry that may not be ErrArg, ahead of all that is read.
func TestAllRefused(t *testing.T) {
	g := api.Geo{Pages: 4, Tx: 4}
	b := made(t, g)
	a := over(t, b, 100)
	for _, none := range []*alloc.Alloc{nil, {}} {
		refused(t, "a nil one", api.ErrNil)(check.All(none, g))
		for _, g := range bads() {
			refused(t, fmt.Sprint("a nil one, ", g), api.ErrNil)(check.All(none, g))
		}
	}
	spoil(b, 0)
	for _, g := range bads() {
		refused(t, fmt.Sprint(g), api.ErrArg)(check.All(a, g))
	}
	if wasRead(b, 0) {
		t.Error("it was read")
	}
	b.D.Crash()
	for _, g := range bads() {
		refused(t, fmt.Sprint(g, " without power"), api.ErrArg)(check.All(a, g))
	}
}

// P25.1: the first error of Get, whichever block it is of; none behind it is read.
func TestAllGets(t *testing.T) {
	for _, n := range []int{1, 5, 20} {
		g := api.Geo{Pages: n, Tx: 4}
		many := 1 + (n+15)/16 + n
		for k := range many {
			b := made(t, g)
			a := over(t, b, 100)
			for i := k; i < many; i++ {
				spoil(b, i)
			}
			refused(t, fmt.Sprint("block ", k), api.ErrTampered)(check.All(a, g))
			for i := k; i < many; i++ {
				if wasRead(b, i) != (i == k) {
					t.Errorf("%d pages, block %d: was block %d read?", n, k, i)
				}
			}
			refused(t, "from then on", api.ErrTampered)(check.All(a, g))
			b = made(t, g)
			a = over(t, b, 100)
			for i := range k {
				if e := a.Batch().Put(i, make([]byte, wide)); e != api.OK {
					t.Fatal("Put", e)
				}
			}
			b.D.Crash()
			refused(t, fmt.Sprint("the power went ahead of block ", k), api.ErrDown)(check.All(a, g))
		}
	}
}

// P25.1: a block that the batch has is not read.
func TestAllOfBatch(t *testing.T) {
	g := api.Geo{Pages: 3, Tx: 4}
	b := made(t, g)
	a := over(t, b, 100)
	l := blank(3, 5).small(1, 1, 1, 5, 3).blocks()
	for k, data := range l {
		spoil(b, k)
		if e := a.Batch().Put(k, data); e != api.OK {
			t.Fatal("Put", e)
		}
	}
	if out, e := check.All(a, g); e != api.OK || !slices.Equal(out, []check.Fault{fault(late, 1)}) {
		t.Error(out, e)
	}
	if wasRead(b, 0) || wasRead(b, 2) || wasRead(b, 4) {
		t.Error("it was read")
	}
}

// P25.1: of another geometry than the objects': the blocks that one has; behind the store's last one there is none.
func TestAllOfAnotherGeometry(t *testing.T) {
	b := made(t, api.Geo{Pages: 20, Tx: 8})
	a := over(t, b, 100)
	d := blank(20, 9).small(15, 0, 0, 8, 1).small(16, 0, 0, 7, 1).byte(2, 2)
	for k, data := range d.blocks() {
		a.Batch().Put(k, data)
	}
	for n := 1; n <= 64; n++ {
		g := api.Geo{Pages: n, Tx: 4}
		var l [][]byte
		for k := range 1 + (n+15)/16 + n {
			if data, e := a.Batch().Get(k); e == api.OK {
				l = append(l, data)
			}
		}
		out, e := check.All(a, g)
		if len(l) < 1+(n+15)/16+n {
			refused(t, fmt.Sprint(n, " pages"), api.ErrRange)(out, e)
			continue
		}
		if want := model(n, l); e != api.OK || !slices.Equal(out, want) {
			t.Errorf("%d pages: %v, error %d; not %v", n, out, e, want)
		}
	}
}

// Rule 3: a call changes nothing; what is answered is seen by no later answer.
func TestAllChangesNothing(t *testing.T) {
	g := api.Geo{Pages: 9, Tx: 9}
	a := fresh(t, g)
	for _, n := range []int{5, 300, 120, 9, 700} {
		if _, e := a.Alloc(n); e != api.OK {
			t.Fatal("Alloc", e)
		}
	}
	if e := a.Batch().Put(10, slices.Repeat([]byte{3}, wide)); e != api.OK {
		t.Fatal("Put", e)
	}
	was, keys := fmt.Sprint(a.Meta()), a.Batch().Keys()
	for range 3 {
		out, e := check.All(a, g)
		if e != api.OK || !slices.Equal(out, []check.Fault{fault(trace, 8)}) {
			t.Error(out, e)
		}
		out[0] = fault(1, 1)
	}
	if fmt.Sprint(a.Meta()) != was || !slices.Equal(a.Batch().Keys(), keys) {
		t.Error("something was changed")
	}
}

// sound fails unless objects have no faults.
func sound(t *testing.T, what string, a *alloc.Alloc, g api.Geo) {
	t.Helper()
	if out, e := check.All(a, g); e != api.OK || len(out) > 0 {
		t.Fatalf("%s: %v, error %d", what, out, e)
	}
}

// some is a number of bytes, of one kind or another.
func some(r *rand.Rand) int {
	return []int{1 + r.IntN(8), 1 + r.IntN(48), 1 + r.IntN(120), 121 + r.IntN(500), 1 + r.IntN(4096), 256 * (1 + r.IntN(4)), 0, 4097}[r.IntN(8)]
}

// caller is what a heap's calls of change are asked of.
type caller interface {
	Alloc(n int) (handle.Handle, api.Errno)
	Free(h handle.Handle) api.Errno
	Realloc(h handle.Handle, n int) (handle.Handle, api.Errno)
	Write(h handle.Handle, at int, b []byte) api.Errno
	Set(k int, h handle.Handle) api.Errno
	Size(h handle.Handle) (int, api.Errno)
	Walk() ([]alloc.Item, api.Errno)
}

// call does a call of some kind.
func call(r *rand.Rand, a caller) {
	h := handle.Handle(r.Uint64N(20))
	if l, _ := a.Walk(); len(l) > 0 && r.IntN(20) > 0 {
		h = l[r.IntN(len(l))].H
	}
	switch r.IntN(10) {
	case 0, 1, 2, 3:
		a.Alloc(some(r))
	case 4, 5:
		a.Free(h)
	case 6:
		a.Realloc(h, some(r))
	case 7:
		a.Set(r.IntN(17), h)
	default:
		n, _ := a.Size(h)
		at := r.IntN(n + 1)
		a.Write(h, at, slices.Repeat([]byte{255}, r.IntN(n-at+2)))
	}
}

// P25.2: objects that were made by calls alone have no faults, behind each call; nor when all are freed.
func TestScripts(t *testing.T) {
	for seed := range uint64(30) {
		t.Run(fmt.Sprint(seed), func(t *testing.T) {
			t.Parallel()
			r := rand.New(rand.NewPCG(seed, 13))
			g := api.Geo{Pages: []int{1, 3, 16, 17, 40, 64}[r.IntN(6)], Tx: 24}
			b := made(t, g)
			a := over(t, b, 100)
			sound(t, "a new one", a, g)
			for k := range 120 {
				call(r, a)
				sound(t, fmt.Sprint("call ", k), a, g)
			}
			l, _ := a.Walk()
			for _, x := range l {
				if e := a.Free(x.H); e != api.OK {
					t.Fatal("Free", e)
				}
			}
			sound(t, "all freed", a, g)
			noughts(t, a, g)
		})
	}
}

// noughts fails unless all blocks behind the head are.
func noughts(t *testing.T, a *alloc.Alloc, g api.Geo) {
	t.Helper()
	for k := 1; k < 1+(g.Pages+15)/16+g.Pages; k++ {
		if b, e := a.Batch().Get(k); e != api.OK || !slices.Equal(b, make([]byte, wide)) {
			t.Errorf("block %d: %x, error %d", k, b, e)
		}
	}
}

// P25.2: so, too, heaps with transactions, with losses of power, and opened again.
func TestHeaps(t *testing.T) {
	for seed := range uint64(20) {
		t.Run(fmt.Sprint(seed), func(t *testing.T) {
			t.Parallel()
			r := rand.New(rand.NewPCG(seed, 14))
			g := api.Geo{Pages: []int{2, 16, 30, 64}[r.IntN(4)], Tx: 4 + r.IntN(21)}
			b := made(t, g)
			h, _ := heap.New(b)
			for range 40 {
				h.Open(true)
				sound(t, "opened", h.Now(), g)
				h.Begin()
				for range r.IntN(12) {
					call(r, h)
				}
				sound(t, "in a transaction", h.Now(), g)
				if r.IntN(3) == 0 {
					b.D.Arm(1+r.IntN(40), byte(r.Uint32()), byte(r.Uint32()))
				}
				if r.IntN(8) > 0 {
					h.Commit()
				} else {
					h.Abort()
				}
				if h.State() == api.OK {
					sound(t, "ended", h.Now(), g)
				}
				h.Close()
				b.D.On()
			}
		})
	}
}
