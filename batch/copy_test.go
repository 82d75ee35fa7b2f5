package batch_test

import (
	"bytes"
	"slices"
	"testing"

	"garderobe/api"
	"garderobe/batch"
)

// Rules 4 and 5: a block that is put is neither changed nor kept, up to its capacity.
func TestPutIsACopy(t *testing.T) {
	w := made(t, true)
	b, m := batch.New(w.s, 2), &model{most: 2}
	room := text(1, 600)
	data := room[100:356]
	if e, f := b.Put(2, data), m.put(2, data); e != api.OK || f != api.OK {
		t.Fatal(e, f)
	}
	b.Commit()
	w.plain, _ = m.commit(w.plain)
	b.Put(1, data)
	m.put(1, data)
	if !bytes.Equal(room, text(1, 600)) {
		t.Error("what was handed in was changed")
	}
	clear(room)
	stands(t, "written into", b, m, w.plain)
}

// Rule 4: answers share no memory with what is there, nor with one another, nor with those of copies.
func TestAnswersAreCopies(t *testing.T) {
	w := made(t, true)
	a, m := batch.New(w.s, 4), &model{most: 4}
	puts(t, a, m, 1, 2, 3, 40)
	b := a.Copy()
	for _, x := range []*batch.Batch{a, b} {
		for _, k := range []int{0, 2, 3, 40} {
			one, _ := x.Get(k)
			other, _ := x.Get(k)
			want := bytes.Clone(other)
			clear(one[:cap(one)])
			if !bytes.Equal(other, want) {
				t.Errorf("two answers of Get of %d share memory", k)
			}
		}
		one, other := x.Keys(), x.Keys()
		for k := range one[:cap(one)] {
			one[:cap(one)][k] = 7
		}
		if !slices.Equal(other, m.keys()) {
			t.Error("two answers of Keys share memory")
		}
		stands(t, "the one", a, m, w.plain)
		stands(t, "the other one", b, m, w.plain)
	}
	got, _ := a.Get(3)
	n := m.copy()
	a.Put(3, block(77))
	n.put(3, block(77))
	if !bytes.Equal(got, m.blocks[3]) {
		t.Error("an answer changed with the batch")
	}
	stands(t, "put anew", a, n, w.plain)
	stands(t, "its copy", b, m, w.plain)
}

// Rule 6: the order in which blocks were put is not seen.
func TestOrderIsNotSeen(t *testing.T) {
	w := made(t, true)
	want := []int{0, 1, 2, 3, 4, 5, 9, 300, 65535}
	orders := [][]int{{0, 1, 2, 3, 4, 5, 9, 300, 65535}, {65535, 300, 9, 5, 4, 3, 2, 1, 0}, {300, 0, 65535, 9, 1, 5, 4, 2, 3}}
	for _, order := range orders {
		for range 5 {
			b, m := batch.New(w.s, 9), &model{most: 9}
			puts(t, b, m, 1, order...)
			if !slices.Equal(b.Keys(), want) {
				t.Errorf("put as %v: %v", order, b.Keys())
			}
			stands(t, "put", b, m, w.plain)
		}
	}
}
