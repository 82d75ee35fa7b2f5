package prio

// entry is a thing with its turn, by which like ones stay apart.
type entry[T any] struct {
	thing T
	turn  uint64
}

// row is the things of a queue, as the library's heap has them.
type row[T any] struct {
	less func(a, b T) bool
	l    []entry[T]
}

// Len is how many entries there are.
func (r *row[T]) Len() int { return len(r.l) }

// Less tells whether entry i comes ahead of entry j.
func (r *row[T]) Less(i, j int) bool {
	a, b := r.l[i], r.l[j]
	return r.less(a.thing, b.thing) || a.turn < b.turn && !r.less(b.thing, a.thing)
}

// Swap puts two entries in each other's place.
func (r *row[T]) Swap(i, j int) { r.l[i], r.l[j] = r.l[j], r.l[i] }

// Push puts an entry behind all others.
func (r *row[T]) Push(x any) { r.l = append(r.l, x.(entry[T])) }

// Pop takes the last entry out. Its place is cleared, so that what it held is kept no longer.
func (r *row[T]) Pop() any {
	last := len(r.l) - 1
	out := r.l[last]
	r.l[last] = entry[T]{}
	r.l = r.l[:last]
	return out
}
