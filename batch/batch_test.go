package batch_test

import (
	"bytes"
	"math"
	"math/rand/v2"
	"slices"
	"testing"

	"garderobe/api"
	"garderobe/batch"
	"garderobe/store"
)

// puts puts blocks of some numbers, others of each seed, into a batch and its model.
func puts(t *testing.T, b *batch.Batch, m *model, seed uint64, numbers ...int) {
	t.Helper()
	for _, k := range numbers {
		data := block(seed*100000 + uint64(k))
		if e, want := b.Put(k, data), m.put(k, data); e != want {
			t.Fatalf("Put of %d: error %d, not %d", k, e, want)
		}
	}
}

// The chapter's example.
func TestExample(t *testing.T) {
	w := made(t, true)
	b := batch.New(w.s, 4)
	x := block(50)
	if e := b.Put(3, x); e != api.OK {
		t.Fatal("Put", e)
	}
	if got, e := b.Get(3); e != api.OK || !bytes.Equal(got, x) {
		t.Error("Get", e)
	}
	b.Abort()
	if got, e := b.Get(3); e != api.OK || !bytes.Equal(got, w.plain[3]) {
		t.Error("Get behind Abort", e)
	}
}

// P21.1, P1: of a nil store there is no batch; a nil batch, and one that no call made, have nothing.
func TestNil(t *testing.T) {
	for _, most := range append(far(), 0, 1, 24) {
		if b := batch.New(nil, most); b != nil {
			t.Error("of a nil store", most)
		}
	}
	for _, b := range []*batch.Batch{nil, {}} {
		for _, k := range append(far(), 0, 1, 65535) {
			if got, e := b.Get(k); e != api.ErrNil || len(got) != 0 {
				t.Errorf("Get of %d: %x, error %d", k, got, e)
			}
			for _, n := range []int{0, 1, 256} {
				if e := b.Put(k, text(1, n)); e != api.ErrNil {
					t.Errorf("Put of %d: error %d", k, e)
				}
			}
		}
		if b.Copy() != nil || b.Len() != 0 || len(b.Keys()) != 0 {
			t.Error("it has something", b.Len(), b.Keys())
		}
		if e := b.Commit(); e != api.ErrNil {
			t.Error("Commit", e)
		}
		b.Abort()
		if b.Len() != 0 || b.Commit() != api.ErrNil {
			t.Error("behind Abort", b.Len())
		}
	}
}

// P21.1, P1: of a store that no call made there is a batch; all that it says is that store's.
func TestOfAnUnmadeStore(t *testing.T) {
	b := batch.New(&store.Store{}, 4)
	if b == nil || b.Copy() == nil {
		t.Fatal("none")
	}
	if got, e := b.Get(0); e != api.ErrNil || len(got) != 0 {
		t.Error("Get", e)
	}
	if e := b.Put(0, block(1)); e != api.ErrNil || b.Len() != 0 {
		t.Error("Put", e)
	}
	if e := b.Commit(); e != api.ErrNil {
		t.Error("Commit", e)
	}
}

// P21.1: a batch has so many blocks, and none more; those that it has are put again.
func TestMost(t *testing.T) {
	w := made(t, true)
	for _, most := range []int{math.MinInt, -65536, -2, -1, 0, 1, 2, 3, 4, 6, 7, 24, 25, 300, 65536, math.MaxInt} {
		b, m := batch.New(w.s, most), &model{most: most}
		stands(t, "new", b, m, w.plain)
		n := min(max(most, 0), 300)
		for k := range n {
			puts(t, b, m, 1, k*7)
		}
		if b.Len() != n {
			t.Fatalf("most %d: %d blocks", most, b.Len())
		}
		stands(t, "full", b, m, w.plain)
		if most <= 300 {
			for _, k := range []int{3, 3000, 65535} {
				if e := b.Put(k, block(9)); e != api.ErrTxFull {
					t.Errorf("most %d: Put of one more: error %d", most, e)
				}
			}
		}
		stands(t, "full, and refused", b, m, w.plain)
		for k := range n {
			puts(t, b, m, 2, k*7)
		}
		stands(t, "put again", b, m, w.plain)
		b.Abort()
		m.blocks = nil
		stands(t, "aborted", b, m, w.plain)
		if n > 0 {
			puts(t, b, m, 3, 65535)
		}
		stands(t, "and one", b, m, w.plain)
	}
	w.idle("Put")
}

// P21.1: as many as there are numbers.
func TestAllNumbers(t *testing.T) {
	w := made(t, true)
	b := batch.New(w.s, math.MaxInt)
	data := block(1)
	for k := 65535; k >= 0; k-- {
		if e := b.Put(k, data); e != api.OK {
			t.Fatalf("Put of %d: error %d", k, e)
		}
	}
	l := b.Keys()
	if len(l) != 65536 || b.Len() != 65536 || !slices.IsSorted(l) || l[0] != 0 || l[65535] != 65535 {
		t.Error("Keys", len(l))
	}
	if e := b.Put(65536, data); e != api.ErrRange {
		t.Error("one more", e)
	}
	if e := b.Commit(); e != api.ErrTxFull || b.Len() != 65536 {
		t.Error("Commit", e)
	}
}

// P21.1: numbers at their ends, and beyond.
func TestNumbers(t *testing.T) {
	w := made(t, true)
	b, m := batch.New(w.s, 10), &model{most: 10}
	for _, k := range far() {
		if e := b.Put(k, block(1)); e != api.ErrRange {
			t.Errorf("Put of %d: error %d", k, e)
		}
	}
	stands(t, "refused", b, m, w.plain)
	for _, k := range []int{0, 1, sealed - 1, sealed, 255, 256, 32767, 32768, 65534, 65535} {
		puts(t, b, m, 1, k)
		stands(t, "put", b, m, w.plain)
	}
}

// P21.1: a block has 256 bytes.
func TestLengths(t *testing.T) {
	w := made(t, true)
	b, m := batch.New(w.s, 4), &model{most: 4}
	puts(t, b, m, 1, 2)
	for n := range 600 {
		if n == 256 {
			continue
		}
		for _, k := range []int{1, 2} {
			if e := b.Put(k, text(1, n)); e != api.ErrArg {
				t.Errorf("%d bytes: error %d", n, e)
			}
		}
	}
	if e := b.Put(2, nil); e != api.ErrArg {
		t.Error("nil", e)
	}
	stands(t, "refused", b, m, w.plain)
}

// P21.1, rule 2: of several errors of Put the first one.
func TestPutOrder(t *testing.T) {
	for _, state := range []api.Errno{api.OK, api.ErrTampered, api.ErrDown} {
		w := made(t, true)
		b, m := batch.New(w.s, 1), &model{most: 1}
		puts(t, b, m, 1, 2)
		switch state {
		case api.ErrTampered:
			w.spoil(5)
			w.s.Read(5)
		case api.ErrDown:
			w.base.D.Crash()
			w.s.Read(5)
			w.base.D.On()
		}
		for _, k := range append(far(), 0, 2, 65535) {
			for _, n := range []int{0, 255, 256, 257} {
				data := text(8, n)
				want := state
				if want == api.OK {
					want = m.copy().put(k, data)
				}
				o := b.Copy()
				if e := o.Put(k, data); e != want {
					t.Errorf("state %d, %d, %d bytes: error %d, not %d", state, k, n, e, want)
				}
				if want != api.OK {
					if x, e := o.Get(2); o.Len() != 1 || e != api.OK || !bytes.Equal(x, m.blocks[2]) {
						t.Errorf("state %d, %d, %d bytes: refused, but not as it was", state, k, n)
					}
				}
			}
		}
	}
}

// P21.1: what the batch has is got of it, all else read of the store.
func TestGetReadsWhatIsNotThere(t *testing.T) {
	w := made(t, true)
	b, m := batch.New(w.s, 4), &model{most: 4}
	puts(t, b, m, 1, 2, 40)
	w.spoil(2)
	for range 2 {
		if got, e := b.Get(2); e != api.OK || !bytes.Equal(got, m.blocks[2]) || w.s.State() != api.OK {
			t.Error("Get reads what the batch has", e, w.s.State())
		}
	}
	w.spoil(4)
	if got, e := b.Get(4); e != api.ErrTampered || len(got) != 0 || w.s.State() != api.ErrTampered {
		t.Error("Get of what others wrote", e, w.s.State())
	}
	for _, k := range append(far(), 0, 4, 5, sealed) {
		if got, e := b.Get(k); e != api.ErrTampered || len(got) != 0 {
			t.Errorf("poisoned: Get of %d: error %d", k, e)
		}
	}
	for _, k := range []int{2, 40} {
		if got, e := b.Get(k); e != api.OK || !bytes.Equal(got, m.blocks[k]) {
			t.Errorf("poisoned: Get of %d, which the batch has: error %d", k, e)
		}
	}
	if e := b.Commit(); e != api.ErrTampered || !slices.Equal(b.Keys(), []int{2, 40}) {
		t.Error("poisoned: Commit", e, b.Keys())
	}
	b.Abort()
	if got, e := b.Get(2); e != api.ErrTampered || len(got) != 0 {
		t.Error("aborted: Get", e)
	}
}

// P21.1: the power went.
func TestGetDown(t *testing.T) {
	w := made(t, true)
	b, m := batch.New(w.s, 4), &model{most: 4}
	puts(t, b, m, 1, 2)
	w.base.D.Crash()
	if e := b.Put(3, block(1)); e != api.OK { // the store has not met it yet
		t.Error("Put", e)
	}
	if got, e := b.Get(4); e != api.ErrDown || len(got) != 0 {
		t.Error("Get", e)
	}
	w.base.D.On()
	for _, k := range append(far(), 0, 4, sealed) {
		if got, e := b.Get(k); e != api.ErrDown || len(got) != 0 {
			t.Errorf("Get of %d: error %d", k, e)
		}
	}
	if got, e := b.Get(2); e != api.OK || !bytes.Equal(got, m.blocks[2]) {
		t.Error("Get of what the batch has", e)
	}
	if e := b.Put(2, block(1)); e != api.ErrDown {
		t.Error("Put", e)
	}
	if e := b.Commit(); e != api.ErrDown || b.Len() != 2 {
		t.Error("Commit", e, b.Len())
	}
}

// P21.1, P21.4: a batch over a store for reading alone has blocks, too, but they are not put in.
func TestReadOnly(t *testing.T) {
	w := made(t, false)
	b, m := batch.New(w.s, 4), &model{most: 4}
	if e := b.Commit(); e != api.ErrReadOnly {
		t.Error("Commit of none", e)
	}
	puts(t, b, m, 1, 2, 0)
	stands(t, "put", b, m, w.plain)
	if e := b.Commit(); e != api.ErrReadOnly {
		t.Error("Commit", e)
	}
	stands(t, "refused", b, m, w.plain)
	w.idle("Commit")
	b.Abort()
	stands(t, "aborted", b, &model{most: 4}, w.plain)
}

// P21.2: what is changed in one batch is seen in none that was copied of it, or that it was copied of.
func TestCopiesAreApart(t *testing.T) {
	w := made(t, true)
	a, m := batch.New(w.s, 3), &model{most: 3}
	for _, numbers := range [][]int{{}, {1}, {1, 5}, {1, 5, 9}} {
		puts(t, a, m, 1, numbers...)
		b, c := a.Copy(), a.Copy().Copy()
		n, o := m.copy(), m.copy()
		stands(t, "a copy", b, n, w.plain)
		stands(t, "a copy of a copy", c, o, w.plain)
		puts(t, b, n, 2, 1, 4, 5, 9, 0, 7) // as many as it may have: so many as the first one
		puts(t, c, o, 3, 9, 8, 7, 6, 5, 4, 3)
		stands(t, "the first one", a, m, w.plain)
		stands(t, "a copy, changed", b, n, w.plain)
		stands(t, "a copy of a copy, changed", c, o, w.plain)
		before := m.copy()
		a.Abort()
		stands(t, "aborted", a, &model{}, w.plain)
		stands(t, "a copy of one that was aborted", b, n, w.plain)
		a, m = c.Copy(), o.copy()
		c.Abort()
		stands(t, "a copy of one that is no more", a, m, w.plain)
		a, m = batch.New(w.s, 3), &model{most: 3}
		puts(t, a, m, 1, before.keys()...)
	}
	w.idle("Copy")
}

// P21.2: copies are over one store.
func TestCopiesHaveOneStore(t *testing.T) {
	w := made(t, true)
	a, m := batch.New(w.s, 3), &model{most: 3}
	puts(t, a, m, 1, 1, 5)
	b, n := a.Copy(), m.copy()
	puts(t, b, n, 2, 5, 0)
	var e api.Errno
	if e = b.Commit(); e != api.OK {
		t.Fatal("Commit", e)
	}
	w.plain, _ = n.commit(w.plain)
	stands(t, "committed", b, n, w.plain)
	stands(t, "the other one", a, m, w.plain)
	if e = a.Commit(); e != api.OK {
		t.Fatal("Commit", e)
	}
	w.plain, _ = m.commit(w.plain)
	stands(t, "both committed", a, m, w.plain)
	stands(t, "both committed", b, n, w.plain)
	w.spoil(3)
	if _, e := a.Get(3); e != api.ErrTampered {
		t.Error("Get", e)
	}
	if _, e := b.Get(0); e != api.ErrTampered {
		t.Error("one is poisoned, the other one not", e)
	}
}

// P21.3, P21.4: rows of all calls, of several batches over one store, by the model.
func TestRows(t *testing.T) {
	for seed := range uint64(12) {
		r := rand.New(rand.NewPCG(seed, 4))
		w := made(t, true)
		l, ms := []*batch.Batch{batch.New(w.s, 5)}, []*model{{most: 5}}
		l, ms = append(l, batch.New(w.s, 8)), append(ms, &model{most: 8})
		for step := range 400 {
			k := r.IntN(len(l))
			b, m := l[k], ms[k]
			switch r.IntN(12) {
			case 0:
				b.Abort()
				m.blocks = nil
			case 1:
				i := r.IntN(4)
				if i >= len(l) {
					l, ms = append(l, nil), append(ms, nil)
					i = len(l) - 1
				}
				l[i], ms[i] = b.Copy(), m.copy()
			case 2:
				plain, want := m.commit(w.plain)
				if want != api.OK {
					w.idle("refused")
				}
				if e := b.Commit(); e != want {
					t.Fatalf("seed %d, step %d: Commit: error %d, not %d", seed, step, e, want)
				}
				w.plain, w.acts, w.image, w.reg = plain, len(w.base.D.Acts()), w.base.D.Image(), w.base.T.Read()
			case 3:
				puts(t, b, m, uint64(step), sealed+r.IntN(3))
			default:
				puts(t, b, m, uint64(step), r.IntN(sealed))
			}
			stands(t, "step", b, m, w.plain)
			w.idle("ahead of Commit")
		}
		w.lasts("at last", w.plain)
	}
}
