package alloc

import (
	"garderobe/api"
	"garderobe/class"
	"garderobe/handle"
	"garderobe/pages"
	"garderobe/slot"
)

// sized tells whether an object may have n bytes.
func sized(n int) bool { return 1 <= n && n <= api.MaxSize }

// alloc makes an object of noughts.
func (s *stand) alloc(n int) (handle.Handle, api.Errno) {
	if !sized(n) {
		return 0, api.ErrSize
	}
	return s.place(n, nil)
}

// place makes an object of n bytes: those of b, and noughts behind.
func (s *stand) place(n int, b []byte) (handle.Handle, api.Errno) {
	serial := s.Roots.Next
	if serial > slot.MaxSerial {
		return 0, api.ErrExhausted
	}
	s.Roots.Next++
	if c, ok := class.Of(n); ok {
		return s.placeSmall(c, n, serial, b)
	}
	return s.placeGreat(n, serial, b)
}

// pagesFor are the pages where a slot of class c may be found, in the order in which they are asked.
func (s *stand) pagesFor(c int) []int {
	var l []int
	for at, p := range s.Pages {
		if p.Kind == pages.Slots && p.Class == c {
			l = append(l, at)
		}
	}
	if at, ok := pages.First(s.Pages, 1); ok {
		l = append(l, at)
	}
	return l
}

// placeSmall makes an object in the first slot that is free.
func (s *stand) placeSmall(c, n int, serial uint64, b []byte) (handle.Handle, api.Errno) {
	for _, at := range s.pagesFor(c) {
		block, e := s.load(at, 1)
		if e != api.OK {
			return 0, e
		}
		block, k, e := slot.Take(block, c, serial, n)
		if e == api.ErrFull {
			continue
		}
		if e != api.OK {
			return 0, e
		}
		return named(at, k, serial), s.fill(at, c, k, block, b)
	}
	return 0, api.ErrNoSpace
}

// fill puts a page of slots of class c in anew, with bytes in one of them.
func (s *stand) fill(at, c, k int, block, b []byte) api.Errno {
	block, e := slot.Write(block, c, k, 0, b)
	if e != api.OK {
		return e
	}
	if e := s.put(at, block); e != api.OK || s.Pages[at].Kind == pages.Slots {
		return e
	}
	return s.turn(pages.Turn(s.Pages, at, c))
}

// placeGreat makes an object in the first pages that are free.
func (s *stand) placeGreat(n int, serial uint64, b []byte) (handle.Handle, api.Errno) {
	run, _ := class.Pages(n)
	at, ok := pages.First(s.Pages, run)
	if !ok {
		return 0, api.ErrNoSpace
	}
	if e := s.turn(pages.Take(s.Pages, at, n, serial)); e != api.OK {
		return 0, e
	}
	return named(at, 0, serial), great{s, s.Pages[at], at}.write(0, b)
}

// free takes an object away; roots that were it are another one then, or none.
func (s *stand) free(h, to handle.Handle) api.Errno {
	o, e := s.find(h)
	if e != api.OK {
		return e
	}
	s.rename(h, to)
	return o.remove()
}

// realloc makes an object longer or shorter, where it is, or elsewhere.
func (s *stand) realloc(h handle.Handle, n int) (handle.Handle, api.Errno) {
	o, e := s.find(h)
	switch {
	case e != api.OK:
		return 0, e
	case !sized(n):
		return 0, api.ErrSize
	case o.holds(n):
		return h, o.resize(n)
	}
	b, e := o.bytes()
	if e != api.OK {
		return 0, e
	}
	to, e := s.place(n, part(b, 0, min(o.size(), n)))
	if e != api.OK {
		return 0, e
	}
	return to, s.free(h, to)
}

// write puts bytes into an object; of no bytes nothing is put.
func (s *stand) write(h handle.Handle, at int, b []byte) api.Errno {
	o, e := s.find(h)
	switch {
	case e != api.OK:
		return e
	case beyond(o, at, len(b)):
		return api.ErrRange
	case len(b) == 0:
		return api.OK
	}
	return o.write(at, b)
}
