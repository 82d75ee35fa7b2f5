package play

import (
	"garderobe/alloc"
	"garderobe/api"
	"garderobe/check"
	"garderobe/handle"
	"garderobe/heap"
	"garderobe/script"
)

// deed is what an act does with the heap: it puts in what is answered, and tells the error.
type deed func(h *heap.Heap) api.Errno

// with is a call that answers an error alone, with what it is to be given.
func with[X any](call func(*heap.Heap, X) api.Errno, x X) deed {
	return func(h *heap.Heap) api.Errno { return call(h, x) }
}

// tells is a call whose answer is put in.
func tells[T any](call func(*heap.Heap) (T, api.Errno), put func(T)) deed {
	return func(h *heap.Heap) api.Errno {
		x, e := call(h)
		put(x)
		return e
	}
}

// asks is such a call with what it is to be given.
func asks[X, T any](call func(*heap.Heap, X) (T, api.Errno), x X, put func(T)) deed {
	return tells(func(h *heap.Heap) (T, api.Errno) { return call(h, x) }, put)
}

// number puts in a number: a handle, a size, how many faults there are.
func number[N ~int | ~uint64](out *Answer) func(N) {
	return func(n N) { out.V = uint64(n) }
}

// pick is what an act does; what it answers beside an error goes into out.
func (w *World) pick(a script.Act, out *Answer) deed {
	switch a.Kind {
	case script.Format:
		return (*heap.Heap).Format
	case script.Open:
		return with((*heap.Heap).Open, a.Yes)
	case script.Close:
		return (*heap.Heap).Close
	case script.Begin:
		return (*heap.Heap).Begin
	case script.Commit:
		return (*heap.Heap).Commit
	case script.Abort:
		return (*heap.Heap).Abort
	case script.Alloc:
		return asks((*heap.Heap).Alloc, a.N, number[handle.Handle](out))
	case script.Root:
		return asks((*heap.Heap).Root, a.K, number[handle.Handle](out))
	case script.Stat:
		return tells((*heap.Heap).Stat, func(s alloc.Stat) { out.Stat = s })
	case script.Check:
		return tells(w.faults, number[int](out))
	case script.Crash, script.Arm, script.Tamper, script.On:
		return func(h *heap.Heap) api.Errno { return w.befall(h, a) }
	}
	return pickOf(w.object(a.Which), a, out)
}

// pickOf is what an act that has an object, x, does with it.
func pickOf(x handle.Handle, a script.Act, out *Answer) deed {
	switch a.Kind {
	case script.Free:
		return with((*heap.Heap).Free, x)
	case script.Realloc:
		call := func(h *heap.Heap) (handle.Handle, api.Errno) { return h.Realloc(x, a.N) }
		return tells(call, number[handle.Handle](out))
	case script.Write:
		return func(h *heap.Heap) api.Errno { return h.Write(x, a.At, a.B) }
	case script.Read:
		call := func(h *heap.Heap) ([]byte, api.Errno) { return h.Read(x, a.At, a.N) }
		return tells(call, func(b []byte) { out.B = b })
	case script.Set:
		if a.Yes {
			x = 0
		}
		return func(h *heap.Heap) api.Errno { return h.Set(a.K, x) }
	default: // Size
		return asks((*heap.Heap).Size, x, number[int](out))
	}
}

// object is the one of that number in a Walk; nobody's handle, if there are not so many, or none can be told.
func (w *World) object(which int) handle.Handle {
	l, _ := w.heap.Walk() // with an error there are none
	if which >= len(l) {
		return 0
	}
	return l[which].H
}

// faults is how many things are wrong with the heap as it stands.
func (w *World) faults(h *heap.Heap) (int, api.Errno) {
	if e := h.State(); e != api.OK {
		return 0, e
	}
	l, e := check.All(h.Now(), w.base.G)
	return len(l), e
}

// befall is what others do, and what becomes of the power.
func (w *World) befall(h *heap.Heap, a script.Act) api.Errno {
	d := w.base.D
	switch a.Kind {
	case script.Crash:
		d.Crash(a.B...)
		h.Close() // one that is closed stays so
	case script.Arm:
		d.Arm(a.N, a.B...)
	case script.On:
		d.On()
	case script.Tamper:
		if !d.Tamper(a.At, a.B) {
			return api.ErrRange
		}
	}
	return api.OK
}
