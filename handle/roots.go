package handle

import (
	"slices"

	"garderobe/api"
	"garderobe/slot"
	"garderobe/word"
)

const (
	wide      = 8                  // bytes of each number of the head
	firstNext = 1                  // the next serial, where none was given yet
	lastNext  = slot.MaxSerial + 1 // the next serial, when all were
)

// Roots is what the head holds: the next serial, and roots by their numbers.
type Roots struct {
	Next uint64
	L    [api.MaxRoots]Handle
}

// Bytes is the head as a block.
func (r Roots) Bytes() ([]byte, api.Errno) {
	if r != (Roots{}) && !r.may() {
		return nil, api.ErrArg
	}
	b := word.Put(wide, r.Next)
	for _, h := range r.L {
		b = append(b, word.Put(wide, uint64(h))...)
	}
	return word.Pad(b, api.Block), api.OK
}

// may tells whether there may be such a head.
func (r Roots) may() bool {
	return firstNext <= r.Next && r.Next <= lastNext && !slices.ContainsFunc(r.L[:], Handle.stray)
}

// stray tells whether a number can't be a root: it is no handle, and doesn't say that there is none.
func (h Handle) stray() bool { return h != 0 && nowhere(h.Place) }

// nowhere tells whether place, which tells a handle's, tells none.
func nowhere(place func() (Place, bool)) bool {
	_, ok := place()
	return !ok
}

// Parse is the head whose block b is: the one that its numbers tell, if that one's block is b byte by byte.
func Parse(b []byte) (Roots, api.Errno) {
	r := read(word.Of(b).Num)
	if want, e := r.Bytes(); e != api.OK || !word.Same(want, b) {
		return Roots{}, api.ErrForm
	}
	if r == (Roots{}) {
		r.Next = firstNext
	}
	return r, api.OK
}

// read is the head whose numbers next reads, one behind the other.
func read(next func(n int) uint64) Roots {
	r := Roots{Next: next(wide)}
	for k := range r.L {
		r.L[k] = Handle(next(wide))
	}
	return r
}
