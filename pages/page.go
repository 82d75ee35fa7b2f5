package pages

import (
	"slices"

	"garderobe/api"
	"garderobe/class"
	"garderobe/slot"
	"garderobe/word"
)

// Kinds of pages.
const (
	Free = iota
	Slots
	Head
	Tail
)

// How many bytes each number of a page has in a block.
const (
	kindBytes   = 1
	classBytes  = 1
	runBytes    = 2
	sizeBytes   = 4
	serialBytes = 8
)

const noClass = -1 // the class of a page that becomes free

// Page is what one is: of slots of a class, the first one of an object of Size bytes in Run pages, or one behind that.
type Page struct {
	Kind, Class int
	Run, Size   int
	Serial      uint64
}

// ofSlots is a page of slots of class c, if there is such a one.
func ofSlots(c int) (Page, bool) { return Page{Kind: Slots, Class: c}, class.Slots(c) > 0 }

// ofObject is the first page of an object that takes whole pages, if there may be such a one.
func ofObject(size int, serial uint64) (Page, bool) {
	n, ok := class.Pages(size)
	return Page{Kind: Head, Run: n, Size: size, Serial: serial}, ok && 1 <= serial && serial <= slot.MaxSerial
}

// free tells whether a page is Free: one that says so, but has more to say, is not.
func (p Page) free() bool { return p == Page{} }

// tail tells whether a page is a Tail.
func (p Page) tail() bool { return p == Page{Kind: Tail} }

// may tells whether a page is one of the four.
func (p Page) may() bool {
	switch p.Kind {
	case Slots:
		like, ok := ofSlots(p.Class)
		return ok && p == like
	case Head:
		like, ok := ofObject(p.Size, p.Serial)
		return ok && p == like
	}
	return p.free() || p.tail()
}

// turned is what a page becomes: a free one one of slots of class c, one of slots a free one.
func (p Page) turned(c int) (Page, api.Errno) {
	like, ok := ofSlots(c)
	switch {
	case c == noClass && p.Kind == Slots:
		return Page{}, api.OK
	case c == noClass:
		return Page{}, api.ErrNone
	case !ok:
		return Page{}, api.ErrArg
	case !p.free():
		return Page{}, api.ErrThere
	}
	return like, api.OK
}

// bytes is a page in a block.
func (p Page) bytes() []byte {
	return slices.Concat(
		word.Put(kindBytes, uint64(p.Kind)),
		word.Put(classBytes, uint64(p.Class)),
		word.Put(runBytes, uint64(p.Run)),
		word.Put(sizeBytes, uint64(p.Size)),
		word.Put(serialBytes, p.Serial),
	)
}

// read is the page whose numbers next reads, one behind the other.
func read(next func(n int) uint64) Page {
	return Page{
		Kind:   int(next(kindBytes)),
		Class:  int(next(classBytes)),
		Run:    int(next(runBytes)),
		Size:   int(next(sizeBytes)),
		Serial: next(serialBytes),
	}
}
