package heap

import (
	"garderobe/alloc"
	"garderobe/api"
	"garderobe/handle"
)

// look does a call that changes nothing, in a transaction or without one.
func look[T any](h *Heap, do func(a *alloc.Alloc) (T, api.Errno)) (T, api.Errno) {
	if e := h.State(); e != api.OK {
		var none T
		return none, e
	}
	return do(h.now.objects())
}

// Read is n bytes of an object, from at on.
func (h *Heap) Read(x handle.Handle, at, n int) ([]byte, api.Errno) {
	return look(h, func(a *alloc.Alloc) ([]byte, api.Errno) { return a.Read(x, at, n) })
}

// Size is how many bytes an object has.
func (h *Heap) Size(x handle.Handle) (int, api.Errno) {
	return look(h, func(a *alloc.Alloc) (int, api.Errno) { return a.Size(x) })
}

// Root is the object of a number, or 0.
func (h *Heap) Root(k int) (handle.Handle, api.Errno) {
	return look(h, func(a *alloc.Alloc) (handle.Handle, api.Errno) { return a.Root(k) })
}

// Walk is all objects, by their pages, then by their slots.
func (h *Heap) Walk() ([]alloc.Item, api.Errno) { return look(h, (*alloc.Alloc).Walk) }

// Stat is how many pages of each kind there are, how many objects, and how many bytes these have.
func (h *Heap) Stat() (alloc.Stat, api.Errno) { return look(h, (*alloc.Alloc).Stat) }

// Now is the objects as they stand, as a copy.
func (h *Heap) Now() *alloc.Alloc {
	if h.there() != api.OK {
		return nil
	}
	return h.now.objects().Copy()
}
