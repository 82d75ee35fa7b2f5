package prio

import (
	"slices"
	"testing"
)

// What was taken out is kept no longer, though the row's memory stays.
func TestNothingIsKeptOfWhatWasTaken(t *testing.T) {
	q := New(func(a, b *int) bool { return *a < *b })
	for k := range 40 {
		q.Push(&k)
	}
	for range 15 {
		q.Pop()
	}
	kept := func(e entry[*int]) bool { return e != entry[*int]{} }
	if n := q.Len(); n != 25 || slices.ContainsFunc(q.things.l[n:cap(q.things.l)], kept) {
		t.Error("behind Pop", n)
	}
	q.All()
	if slices.ContainsFunc(q.things.l[:cap(q.things.l)], kept) {
		t.Error("behind All")
	}
}
