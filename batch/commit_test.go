package batch_test

import (
	"bytes"
	"slices"
	"testing"

	"garderobe/api"
	"garderobe/batch"
	"garderobe/logf"
	"garderobe/mend"
	"garderobe/trust"
)

// P21.2: a Commit does what the store's does of the same blocks, by their numbers, in whatever order they were put.
func TestCommitIsTheStores(t *testing.T) {
	for _, numbers := range [][]int{{0}, {5}, {3, 1}, {5, 4, 3, 2, 1, 0}, {0, 1, 2, 3, 4, 5}, {4, 0, 4, 2, 0}} {
		w, o := made(t, true), made(t, true)
		b, m := batch.New(w.s, 6), &model{most: 6}
		for at, k := range numbers {
			puts(t, b, m, uint64(at), k)
		}
		w.idle("Put")
		var l []logf.Entry
		for _, k := range m.keys() {
			l = append(l, logf.Entry{K: k, Data: m.blocks[k]})
		}
		if e := o.s.Commit(l...); e != api.OK {
			t.Fatal(e)
		}
		if e := b.Commit(); e != api.OK {
			t.Fatal("Commit", e)
		}
		if !slices.Equal(w.base.D.Acts(), o.base.D.Acts()) || !bytes.Equal(w.base.D.Image(), o.base.D.Image()) || w.base.T.Read() != o.base.T.Read() {
			t.Errorf("%v: not as the store's Commit", numbers)
		}
		w.plain, _ = m.commit(w.plain)
		stands(t, "committed", b, m, w.plain)
		w.lasts("committed", w.plain)
	}
}

// P21.2: of no blocks nothing is done.
func TestCommitOfNone(t *testing.T) {
	w := made(t, true)
	b := batch.New(w.s, 4)
	for range 2 {
		if e := b.Commit(); e != api.OK || b.Len() != 0 {
			t.Error("Commit", e)
		}
	}
	puts(t, b, &model{most: 4}, 1, 2, 3)
	b.Abort()
	if e := b.Commit(); e != api.OK {
		t.Error("aborted: Commit", e)
	}
	w.idle("Commit of none")
}

// P21.2: behind a Commit that was OK the batch is one as at first, and goes on.
func TestCommitTwice(t *testing.T) {
	w := made(t, true)
	b, m := batch.New(w.s, 2), &model{most: 2}
	for round := range uint64(4) {
		puts(t, b, m, round, 1+int(round), 0)
		if e := b.Put(5, block(1)); e != api.ErrTxFull {
			t.Error("full", e)
		}
		if e := b.Commit(); e != api.OK {
			t.Fatal("Commit", e)
		}
		count := w.base.T.Read().Count
		if e := b.Commit(); e != api.OK || w.base.T.Read().Count != count {
			t.Error("once more", e)
		}
		w.plain, _ = m.commit(w.plain)
		stands(t, "committed", b, m, w.plain)
	}
	w.lasts("committed", w.plain)
}

// P21.2: what the store refuses stays in the batch, and nothing is done; then it goes on.
func TestCommitRefused(t *testing.T) {
	for want, numbers := range map[api.Errno][]int{
		api.ErrTxFull: {0, 1, 2, 3, 4, 5, 6},
		api.ErrArg:    {0, sealed},
	} {
		w := made(t, true)
		b, m := batch.New(w.s, 20), &model{most: 20}
		puts(t, b, m, 1, numbers...)
		for range 2 {
			if e := b.Commit(); e != want {
				t.Errorf("%v: error %d, not %d", numbers, e, want)
			}
			stands(t, "refused", b, m, w.plain)
			w.idle("refused")
		}
		b.Abort()
		m.blocks = nil
		puts(t, b, m, 2, 5)
		if e := b.Commit(); e != api.OK {
			t.Error("aborted, and one block: Commit", e)
		}
		w.plain, _ = m.commit(w.plain)
		stands(t, "committed", b, m, w.plain)
	}
}

// P21.2: the register is at its end.
func TestCommitExhausted(t *testing.T) {
	w := made(t, true)
	w.base.T = trust.At(w.base.D, api.Reg{Count: api.MaxCount - 2, Root: w.reg.Root})
	w.open(true)
	b, m := batch.New(w.s, 4), &model{most: 4}
	puts(t, b, m, 1, 1)
	if e := b.Commit(); e != api.OK { // to the last count
		t.Fatal("Commit", e)
	}
	w.plain, _ = m.commit(w.plain)
	w.acts, w.image, w.reg = len(w.base.D.Acts()), w.base.D.Image(), w.base.T.Read()
	if e := b.Commit(); e != api.ErrExhausted {
		t.Error("Commit of none", e)
	}
	puts(t, b, m, 2, 2)
	if e := b.Commit(); e != api.ErrExhausted {
		t.Error("Commit", e)
	}
	stands(t, "refused", b, m, w.plain)
	w.idle("refused")
}

// P21.2, P21.3: the power goes at each act of a Commit: the blocks stay in the batch, and all of them last, or none.
func TestCommitDown(t *testing.T) {
	none, all := 0, 0
	for act := 1; act < 100; act++ {
		for pick := range byte(2) {
			w := made(t, true)
			b, m := batch.New(w.s, 4), &model{most: 4}
			puts(t, b, m, 1, 5, 1, 2)
			w.base.D.Arm(act, pick)
			e := b.Commit()
			if e == api.OK {
				if none == 0 || all == 0 || act < 10 {
					t.Error("none were all, or none were none", none, all, act)
				}
				return
			}
			if e != api.ErrDown || !slices.Equal(b.Keys(), m.keys()) {
				t.Errorf("act %d: error %d, %v", act, e, b.Keys())
			}
			for _, k := range m.keys() {
				if got, e := b.Get(k); e != api.OK || !bytes.Equal(got, m.blocks[k]) {
					t.Errorf("act %d: Get of %d: error %d", act, k, e)
				}
			}
			w.base.D.On()
			if e := b.Commit(); e != api.ErrDown {
				t.Errorf("act %d: Commit once more: error %d", act, e)
			}
			set := w.base.T.Read() != w.reg
			if plain, _ := m.commit(w.plain); set {
				all++
				w.lasts("behind the Set", plain)
			} else {
				none++
				w.lasts("ahead of the Set", w.plain)
			}
		}
	}
	t.Error("no Commit was OK")
}

// P21.4: what a batch over the store opened again has.
func TestOpenedAgain(t *testing.T) {
	w := made(t, true)
	b, m := batch.New(w.s, 4), &model{most: 4}
	puts(t, b, m, 1, 0, 3)
	if e := b.Commit(); e != api.OK {
		t.Fatal(e)
	}
	w.plain, _ = m.commit(w.plain)
	puts(t, b, m, 2, 0, 4) // forgotten
	s, e := mend.Open(w.base, true)
	if e != api.OK {
		t.Fatal(e)
	}
	stands(t, "opened again", batch.New(s, 4), &model{most: 4}, w.plain)
}
