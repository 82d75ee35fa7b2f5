package heap

import (
	"garderobe/alloc"
	"garderobe/api"
	"garderobe/handle"
)

// Begin starts a transaction.
func (h *Heap) Begin() api.Errno {
	if e := h.State(); e != api.OK {
		return e
	}
	switch {
	case h.now.tx != nil:
		return api.ErrNested
	case !h.now.write:
		return api.ErrReadOnly
	case h.base.T.Last():
		return api.ErrExhausted
	}
	h.now.tx = h.now.done.Copy()
	return api.OK
}

// Commit makes last what was changed in a transaction: all of it, or nothing.
func (h *Heap) Commit() api.Errno {
	return h.within(func(a *alloc.Alloc) api.Errno {
		if e := a.Batch().Commit(); e != api.OK {
			return e
		}
		h.now.done, h.now.tx = a, nil
		return api.OK
	})
}

// Abort forgets what was changed in a transaction.
func (h *Heap) Abort() api.Errno {
	return h.within(func(*alloc.Alloc) api.Errno {
		h.now.tx = nil
		return api.OK
	})
}

// within does a call that there is in a transaction alone.
func (h *Heap) within(do func(a *alloc.Alloc) api.Errno) api.Errno {
	if e := h.State(); e != api.OK {
		return e
	}
	if h.now.tx == nil {
		return api.ErrNoTx
	}
	return do(h.now.tx)
}

// name does a call that answers a handle, and that there is in a transaction alone.
func (h *Heap) name(do func(a *alloc.Alloc) (handle.Handle, api.Errno)) (x handle.Handle, e api.Errno) {
	e = h.within(func(a *alloc.Alloc) (e api.Errno) {
		x, e = do(a)
		return e
	})
	return x, e
}

// Alloc makes an object of n noughts.
func (h *Heap) Alloc(n int) (handle.Handle, api.Errno) {
	return h.name(func(a *alloc.Alloc) (handle.Handle, api.Errno) { return a.Alloc(n) })
}

// Free takes an object away.
func (h *Heap) Free(x handle.Handle) api.Errno {
	return h.within(func(a *alloc.Alloc) api.Errno { return a.Free(x) })
}

// Realloc makes an object longer, or shorter; it may get another handle.
func (h *Heap) Realloc(x handle.Handle, n int) (handle.Handle, api.Errno) {
	return h.name(func(a *alloc.Alloc) (handle.Handle, api.Errno) { return a.Realloc(x, n) })
}

// Write puts bytes in the place of those that an object has from at on.
func (h *Heap) Write(x handle.Handle, at int, b []byte) api.Errno {
	return h.within(func(a *alloc.Alloc) api.Errno { return a.Write(x, at, b) })
}

// Set makes an object a root; of 0 there is none of that number any more.
func (h *Heap) Set(k int, x handle.Handle) api.Errno {
	return h.within(func(a *alloc.Alloc) api.Errno { return a.Set(k, x) })
}
