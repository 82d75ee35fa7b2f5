package alloc

import (
	"slices"

	"garderobe/api"
	"garderobe/batch"
	"garderobe/class"
	"garderobe/geom"
	"garderobe/handle"
	"garderobe/meta"
	"garderobe/pages"
	"garderobe/slot"
)

// stand is how objects stand: what is known beside them, and the batch that they are in.
type stand struct {
	meta.Meta
	geo   api.Geo
	batch *batch.Batch
}

// known is what is known beside the objects, in memory of its own.
func (s *stand) known() meta.Meta {
	return meta.Meta{Roots: s.Roots, Pages: slices.Clone(s.Pages)}
}

// copy is one that stands alike.
func (s *stand) copy() *stand { return &stand{s.known(), s.geo, s.batch.Copy()} }

// save puts into the batch what has changed of what is known.
func (s *stand) save() api.Errno { return meta.Save(s.batch, s.geo, s.Meta) }

// block is the sealed block that a page is.
func (s *stand) block(page int) int { return geom.PageAt(s.geo, page) }

// load is the bytes of some pages, one behind the other.
func (s *stand) load(page, n int) ([]byte, api.Errno) { return gather(s.block(page), n, s.batch.Get) }

// gather is the bytes of n blocks from the first one on, up to the first error.
func gather(first, n int, get func(k int) ([]byte, api.Errno)) ([]byte, api.Errno) {
	var l []byte
	for k := range n {
		data, e := get(first + k)
		if e != api.OK {
			return nil, e
		}
		l = append(l, data...)
	}
	return l, api.OK
}

// put puts the bytes of a page into the batch.
func (s *stand) put(page int, data []byte) api.Errno { return s.batch.Put(s.block(page), data) }

// turn puts pages in the place of those that were there, if they could be made.
func (s *stand) turn(l []pages.Page, e api.Errno) api.Errno {
	if e == api.OK {
		s.Pages = l
	}
	return e
}

// rooted tells whether there may be a root of a number.
func rooted(k int) bool { return 0 <= k && k < api.MaxRoots }

// set makes an object a root, or none.
func (s *stand) set(k int, h handle.Handle) api.Errno {
	if !rooted(k) {
		return api.ErrArg
	}
	if h != 0 {
		if _, e := s.find(h); e != api.OK {
			return e
		}
	}
	s.Roots.L[k] = h
	return api.OK
}

// rename makes roots that were an object another one, or none.
func (s *stand) rename(h, to handle.Handle) {
	for k, root := range s.Roots.L {
		if root == h {
			s.Roots.L[k] = to
		}
	}
}

// walk is all objects.
func (s *stand) walk() ([]Item, api.Errno) {
	var l []Item
	for at, p := range s.Pages {
		more, e := s.inPage(at, p)
		if e != api.OK {
			return nil, e
		}
		l = append(l, more...)
	}
	return l, api.OK
}

// inPage is the objects that begin in a page.
func (s *stand) inPage(at int, p pages.Page) ([]Item, api.Errno) {
	switch p.Kind {
	case pages.Slots:
		return s.inSlots(at, p.Class)
	case pages.Head:
		return []Item{{named(at, 0, p.Serial), p.Size}}, api.OK
	}
	return nil, api.OK
}

// inSlots is the objects of a page of slots of class c.
func (s *stand) inSlots(at, c int) ([]Item, api.Errno) {
	block, e := s.load(at, 1)
	if e != api.OK {
		return nil, e
	}
	var l []Item
	for k := range class.Slots(c) {
		switch serial, b, e := slot.Get(block, c, k); e {
		case api.OK:
			l = append(l, Item{named(at, k, serial), len(b)})
		case api.ErrForm:
			return nil, e
		}
	}
	return l, api.OK
}

// named is the handle of an object that is there: its place has one.
func named(page, slot int, serial uint64) handle.Handle {
	h, _ := handle.Make(handle.Place{Page: page, Slot: slot, Serial: serial})
	return h
}

// stat counts pages of each kind, and objects.
func (s *stand) stat(l []Item) Stat {
	out := Stat{Objects: len(l)}
	for _, p := range s.Pages {
		switch p.Kind {
		case pages.Free:
			out.Free++
		case pages.Slots:
			out.Slots++
		default:
			out.Great++
		}
	}
	for _, x := range l {
		out.Bytes += x.N
	}
	return out
}
