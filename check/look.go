package check

import (
	"slices"

	"garderobe/api"
	"garderobe/class"
	"garderobe/handle"
	"garderobe/meta"
	"garderobe/pages"
	"garderobe/slot"
	"garderobe/word"
)

// look is what is looked through: what is known beside the objects, and the pages, in which the objects were found.
type look struct {
	meta.Meta
	blocks  [][]byte // of the pages
	objects []handle.Place
	first   map[uint64]int // which object is the first one of a serial
}

// newLook finds all objects, by their pages, then by their slots.
func newLook(m meta.Meta, blocks [][]byte) *look {
	l := &look{Meta: m, blocks: blocks, first: map[uint64]int{}}
	for at, p := range l.Pages {
		switch p.Kind {
		case pages.Slots:
			l.addSlots(at, p.Class)
		case pages.Head:
			l.add(handle.Place{Page: at, Serial: p.Serial})
		}
	}
	return l
}

// addSlots adds the objects of a page of slots of class c; one that may not be answers none.
func (l *look) addSlots(at, c int) {
	for k := range class.Slots(c) {
		if serial, _, e := slot.Get(l.blocks[at], c, k); e == api.OK {
			l.add(handle.Place{Page: at, Slot: k, Serial: serial})
		}
	}
}

func (l *look) add(p handle.Place) {
	if _, ok := l.first[p.Serial]; !ok {
		l.first[p.Serial] = len(l.objects)
	}
	l.objects = append(l.objects, p)
}

// sign is a kind of fault, and what tells whether the thing of a number has it.
type sign struct {
	kind int
	has  func(k int) bool
}

// faults is all that is wrong: with the pages, then with the objects, then with the roots.
func (l *look) faults() []Fault {
	return slices.Concat(
		search(len(l.Pages), itself, sign{Form, l.broken}, sign{Trace, l.traced}),
		search(len(l.objects), l.page, sign{Late, l.late}, sign{Twice, l.again}),
		search(len(l.Roots.L), itself, sign{Root, l.lost}),
	)
}

// search goes through n things, one behind the other: each has one fault at most, of the first kind that it shows.
func search(n int, where func(k int) int, signs ...sign) []Fault {
	var out []Fault
	for k := range n {
		shown := func(s sign) bool { return s.has(k) }
		if s := slices.IndexFunc(signs, shown); s >= 0 {
			out = append(out, Fault{signs[s].kind, where(k)})
		}
	}
	return out
}

// itself is where a thing is whose number tells it.
func itself(k int) int { return k }

// page is where an object is.
func (l *look) page(k int) int { return l.objects[k].Page }

// broken tells whether a page of slots may not be.
func (l *look) broken(at int) bool {
	p := l.Pages[at]
	return p.Kind == pages.Slots && slot.Check(l.blocks[at], p.Class) != api.OK
}

// traced tells whether a page has a trace of what is no object's.
func (l *look) traced(at int) bool { return !word.Zero(l.bare(at)) }

// bare is those bytes of a page that no object has; what of these a page of slots has, layer 18 looks through.
func (l *look) bare(at int) []byte {
	if l.Pages[at].Kind == pages.Slots {
		return nil
	}
	first := l.head(at)
	end := l.Pages[first].Size - api.Block*(at-first) // of a free page 0: it has no size, and is its own first one
	return l.blocks[at][min(end, api.Block):]
}

// head is the first page of the great object that a page is of; any other page is its own.
func (l *look) head(at int) int {
	for l.Pages[at] == (pages.Page{Kind: pages.Tail}) {
		at--
	}
	return at
}

// late tells whether an object's serial was not given yet.
func (l *look) late(k int) bool { return l.objects[k].Serial >= l.Roots.Next }

// again tells whether an object ahead has the same serial.
func (l *look) again(k int) bool { return l.first[l.objects[k].Serial] != k }

// lost tells whether a root is no object.
func (l *look) lost(k int) bool {
	h := l.Roots.L[k]
	p, _ := h.Place()
	return h != 0 && !slices.Contains(l.objects, p)
}
