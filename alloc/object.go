package alloc

import (
	"garderobe/api"
	"garderobe/class"
	"garderobe/handle"
	"garderobe/pages"
	"garderobe/slot"
)

const noClass = -1 // layer 19's, of a page that becomes free

// object is what a handle names. What changes it is handed what may be.
type object interface {
	size() int
	bytes() ([]byte, api.Errno)
	write(at int, b []byte) api.Errno
	holds(n int) bool // can it have n bytes where it is?
	resize(n int) api.Errno
	remove() api.Errno
}

// small is an object in a slot of a page.
type small struct {
	*stand
	handle.Place
	class int
	block []byte // its page's
	data  []byte
}

// great is an object that takes whole pages.
type great struct {
	*stand
	pages.Page
	at int // its first page
}

// find is the object that a handle names.
func (s *stand) find(h handle.Handle) (object, api.Errno) {
	p, ok := h.Place()
	if !ok || p.Page >= len(s.Pages) {
		return nil, api.ErrHandle
	}
	switch page := s.Pages[p.Page]; page.Kind {
	case pages.Slots:
		return s.findSmall(p, page.Class)
	case pages.Head:
		if p.Slot == 0 && p.Serial == page.Serial {
			return great{s, page, p.Page}, api.OK
		}
	}
	return nil, api.ErrHandle
}

// findSmall is the object of a place in a page of slots of class c.
func (s *stand) findSmall(p handle.Place, c int) (object, api.Errno) {
	block, e := s.load(p.Page, 1)
	if e != api.OK {
		return nil, e
	}
	serial, data, e := slot.Get(block, c, p.Slot)
	switch {
	case e == api.ErrForm:
		return nil, e
	case e != api.OK || serial != p.Serial:
		return nil, api.ErrHandle
	}
	return small{s, p, c, block, data}, api.OK
}

// beyond tells whether n bytes from at on are not all an object's.
func beyond(o object, at, n int) bool {
	return at < 0 || n < 0 || n > o.size()-at // no sum of both: it might not fit an int
}

func (o small) size() int                  { return len(o.data) }
func (o small) bytes() ([]byte, api.Errno) { return o.data, api.OK }

func (o small) holds(n int) bool {
	c, ok := class.Of(n)
	return ok && c == o.class
}

func (o small) write(at int, b []byte) api.Errno {
	return o.renew(slot.Write(o.block, o.class, o.Slot, at, b))
}

func (o small) resize(n int) api.Errno {
	return o.renew(slot.Resize(o.block, o.class, o.Slot, n))
}

// renew puts its page in anew, if that could be made.
func (o small) renew(block []byte, e api.Errno) api.Errno {
	if e != api.OK {
		return e
	}
	return o.put(o.Place.Page, block)
}

// remove leaves noughts, and a free page, if it was the last one there.
func (o small) remove() api.Errno {
	block, e := slot.Free(o.block, o.class, o.Slot)
	if e = o.renew(block, e); e != api.OK || slot.Used(block, o.class) > 0 {
		return e
	}
	return o.turn(pages.Turn(o.Pages, o.Place.Page, noClass))
}

func (o great) size() int                  { return o.Size }
func (o great) bytes() ([]byte, api.Errno) { return o.load(o.at, o.Run) }

func (o great) holds(n int) bool {
	run, ok := class.Pages(n)
	return ok && run == o.Run
}

// write goes block by block: from the first byte that is written into to the last one.
func (o great) write(at int, b []byte) api.Errno {
	for len(b) > 0 {
		from := at % api.Block
		n := min(len(b), api.Block-from)
		if e := o.edit(at/api.Block, func(block []byte) { copy(part(block, from, from+n), b) }); e != api.OK {
			return e
		}
		at, b = at+n, b[n:]
	}
	return api.OK
}

// edit puts one of its blocks in anew.
func (o great) edit(k int, do func(block []byte)) api.Errno {
	block, e := o.load(o.at+k, 1)
	if e != api.OK {
		return e
	}
	do(block)
	return o.put(o.at+k, block)
}

// resize leaves noughts behind its new end; behind the old one there are noughts already.
func (o great) resize(n int) api.Errno {
	last := o.Run - 1
	if n < o.Size {
		e := o.edit(last, func(block []byte) { clear(part(block, n-api.Block*last, api.Block)) })
		if e != api.OK {
			return e
		}
	}
	o.Pages[o.at].Size = n
	return api.OK
}

// remove leaves noughts in free pages.
func (o great) remove() api.Errno {
	for k := range o.Run {
		if e := o.put(o.at+k, make([]byte, api.Block)); e != api.OK {
			return e
		}
	}
	return o.turn(pages.Give(o.Pages, o.at))
}

// part is a window into bytes, whose capacity ends with it.
func part(b []byte, from, to int) []byte { return b[from:to:to] }
