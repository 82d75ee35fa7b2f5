package play_test

import (
	"bytes"
	"fmt"
	"maps"
	"slices"
	"testing"

	"garderobe/alloc"
	"garderobe/api"
	"garderobe/gauge"
	"garderobe/play"
	"garderobe/script"
)

// things are objects with their bytes, roots, and the next serial.
type things struct {
	objects map[uint64][]byte
	roots   [16]uint64
	next    uint64
}

func (x things) copy() things {
	x.objects = maps.Clone(x.objects) // nothing is written into bytes that stand here
	return x
}

// notes are what a heap must have, by what was done: nothing is kept of its blocks, nothing asked of them. Where an
// object stands, its handle tells; whether a transaction has room, is taken as it is told.
type notes struct {
	w         *play.World
	pages     int
	open      bool
	write, in bool
	down      bool
	done, tx  things
	count     uint64 // what the register held ahead of the act
}

// now are the things that calls are made of.
func (n *notes) now() *things {
	if n.in {
		return &n.tx
	}
	return &n.done
}

// first is what a call answers first.
func (n *notes) first() api.Errno {
	switch {
	case !n.open:
		return api.ErrClosed
	case n.down:
		return api.ErrDown
	}
	return api.OK
}

// handles are those of all objects, by their pages and slots.
func (n *notes) handles() []uint64 {
	return slices.SortedFunc(maps.Keys(n.now().objects), func(a, b uint64) int { return int(a>>48) - int(b>>48) })
}

// object is an act's, or 0.
func (n *notes) object(which int) uint64 {
	if l := n.handles(); which < len(l) {
		return l[which]
	}
	return 0
}

// kindOf is what bytes take by the words: a class, or pages.
func kindOf(n int) string {
	for _, c := range []int{8, 16, 24, 32, 48, 64, 96, 120} {
		if n <= c {
			return fmt.Sprint("class ", c)
		}
	}
	return fmt.Sprint("pages ", (n+255)/256)
}

// fits tells whether there is a place for so many bytes.
func (n *notes) fits(size int) bool {
	r, _ := gauge.Of(n.w.Heap().Now())
	return r.Fits(size)
}

// power is the error of something that the device does: it may go away if that was armed.
func (n *notes) power(got api.Errno) api.Errno {
	if got == api.ErrDown && n.w.Base().D.Down() {
		return api.ErrDown
	}
	return api.OK
}

// room is the error of a change: there may be too many blocks.
func room(got api.Errno) api.Errno {
	if got == api.ErrTxFull {
		return got
	}
	return api.OK
}

// place tells ahead of an act whether there is a place for so many bytes, where one may be asked for.
func (n *notes) place(size int) bool {
	return n.first() != api.OK || !n.in || size < 1 || size > 4096 || n.fits(size)
}

// expects is what an act must answer, of which got is the answer; the notes are brought on.
func (n *notes) expects(a script.Act, got play.Answer, place bool) play.Answer {
	switch a.Kind {
	case script.Format, script.Open, script.Close, script.Begin, script.Commit, script.Abort:
		return fails(n.stands(a, got.E))
	case script.Crash:
		n.open, n.in = false, false
		return play.Answer{}
	case script.Arm, script.On:
		return play.Answer{}
	}
	if e := n.first(); e != api.OK {
		return fails(e)
	}
	switch a.Kind {
	case script.Read, script.Root, script.Size, script.Stat, script.Check:
		return n.looks(a)
	}
	if !n.in {
		return fails(api.ErrNoTx)
	}
	return n.changes(a, got, place)
}

// stands is the error of calls that have no object.
func (n *notes) stands(a script.Act, got api.Errno) api.Errno {
	switch e := n.first(); {
	case a.Kind == script.Format || a.Kind == script.Open:
		if n.open {
			return api.ErrOpen
		}
		return n.comes(a, got)
	case a.Kind == script.Close:
		if n.open {
			n.open, n.in = false, false
			return api.OK
		}
		return e
	case e != api.OK:
		return e
	case a.Kind == script.Begin:
		switch {
		case n.in:
			return api.ErrNested
		case !n.write:
			return api.ErrReadOnly
		case n.count == api.MaxCount:
			return api.ErrExhausted
		}
		n.in, n.tx = true, n.done.copy()
		return api.OK
	case !n.in:
		return api.ErrNoTx
	}
	if a.Kind == script.Abort {
		n.in = false
		return api.OK
	}
	e := n.power(got)
	n.in, n.down = e != api.OK, e != api.OK
	if e == api.OK || n.w.Base().T.Read().Count > n.count { // the register was set
		n.done = n.tx.copy()
	}
	return e
}

// comes is the error of a Format, or of an Open, of a heap that is closed.
func (n *notes) comes(a script.Act, got api.Errno) api.Errno {
	if a.Kind == script.Open && a.Yes && n.count == api.MaxCount || a.Kind == script.Format && n.count > api.MaxCount-2 {
		return api.ErrExhausted
	}
	e := n.power(got)
	switch {
	case e != api.OK:
		return e
	case a.Kind == script.Format:
		n.done = things{map[uint64][]byte{}, [16]uint64{}, 1}
	default:
		n.open, n.write, n.down = true, a.Yes, false
	}
	return e
}

// looks is what calls that change nothing answer.
func (n *notes) looks(a script.Act) play.Answer {
	own := n.now()
	x := n.object(a.Which)
	b := own.objects[x]
	switch {
	case a.Kind == script.Check:
		return play.Answer{}
	case a.Kind == script.Stat:
		return stat(n.stat())
	case a.Kind == script.Root && a.K > 15:
		return fails(api.ErrArg)
	case a.Kind == script.Root:
		return play.Answer{V: own.roots[a.K]}
	case x == 0:
		return fails(api.ErrHandle)
	case a.Kind == script.Size:
		return play.Answer{V: uint64(len(b))}
	case a.At+a.N > len(b):
		return fails(api.ErrRange)
	}
	return play.Answer{B: b[a.At : a.At+a.N]}
}

// stat is how things stand: which pages are taken, the handles tell.
func (n *notes) stat() alloc.Stat {
	out := alloc.Stat{Objects: len(n.now().objects)}
	slots := map[uint64]struct{}{}
	for x, b := range n.now().objects {
		out.Bytes += len(b)
		if len(b) > 120 {
			out.Great += (len(b) + 255) / 256
		} else {
			slots[x>>56] = struct{}{}
		}
	}
	out.Slots = len(slots)
	out.Free = n.pages - out.Slots - out.Great
	return out
}

// changes is what calls in a transaction answer.
func (n *notes) changes(a script.Act, got play.Answer, place bool) play.Answer {
	x := n.object(a.Which)
	b := n.tx.objects[x]
	switch a.Kind {
	case script.Set:
		if a.Yes {
			x = 0
		}
		if a.K > 15 {
			return fails(api.ErrArg)
		}
		if e := room(got.E); e != api.OK {
			return fails(e)
		}
		n.tx.roots[a.K] = x
		return play.Answer{}
	case script.Alloc:
		if a.N < 1 || a.N > 4096 {
			return fails(api.ErrSize)
		}
		return n.makes(a.N, nil, 0, got, place)
	}
	if x == 0 {
		return fails(api.ErrHandle)
	}
	switch a.Kind {
	case script.Realloc:
		return n.resizes(x, b, a.N, got, place)
	case script.Write:
		if a.At+len(a.B) > len(b) {
			return fails(api.ErrRange)
		}
		b = bytes.Clone(b)
		copy(b[a.At:], a.B)
	}
	if e := room(got.E); e != api.OK {
		return fails(e)
	}
	n.tx.objects[x] = b
	if a.Kind == script.Free {
		n.forgets(x, 0)
	}
	return play.Answer{}
}

// resizes is what Realloc answers.
func (n *notes) resizes(x uint64, b []byte, size int, got play.Answer, place bool) play.Answer {
	if size < 1 || size > 4096 {
		return fails(api.ErrSize)
	}
	if kindOf(size) != kindOf(len(b)) {
		return n.makes(size, b, x, got, place)
	}
	if e := room(got.E); e != api.OK {
		return fails(e)
	}
	own := make([]byte, size)
	copy(own, b)
	n.tx.objects[x] = own
	return play.Answer{V: x}
}

// makes is what is answered by what makes an object with these first bytes, in the place of an old one, if there is one.
func (n *notes) makes(size int, b []byte, old uint64, got play.Answer, place bool) play.Answer {
	if !place {
		return fails(api.ErrNoSpace)
	}
	if e := room(got.E); e != api.OK {
		return fails(e)
	}
	x := got.V &^ (1<<48 - 1) // the place is taken as it is told, if no object has it
	for y := range n.tx.objects {
		if y>>48 == x>>48 {
			return fails(-1)
		}
	}
	x |= n.tx.next
	n.tx.next++
	own := make([]byte, size)
	copy(own, b)
	n.tx.objects[x] = own
	if old != 0 {
		n.forgets(old, x)
	}
	return play.Answer{V: x}
}

// forgets takes an object away; roots that were it are another one.
func (n *notes) forgets(x, to uint64) {
	delete(n.tx.objects, x)
	for k, root := range n.tx.roots {
		if root == x {
			n.tx.roots[k] = to
		}
	}
}

// do does an act, and fails unless it answers what the notes say.
func (n *notes) do(t *testing.T, what string, a script.Act) play.Answer {
	t.Helper()
	n.count = n.w.Base().T.Read().Count
	place := a.Kind != script.Alloc && a.Kind != script.Realloc || n.place(a.N)
	got := n.w.Do(a)
	if want := n.expects(a, got, place); told(got) != told(want) {
		t.Fatalf("%s, %+v: %s, not %s", what, a, told(got), told(want))
	}
	return got
}

// P28.4, P28.5, P0.2, P0.3, P0.6: without others' writes each answer of a script is just what the words say, whatever
// befalls the power: a transaction reads what it wrote, what was aborted or cut off is as it was ahead, what was
// committed, or whose register was set, lasts.
func TestExact(t *testing.T) {
	for seed := range uint64(150) {
		t.Run(fmt.Sprint(seed), func(t *testing.T) {
			t.Parallel()
			s := chanceSetup(seed)
			w := made(t, s)
			d := newDice(seed, w)
			d.power = seed%4 > 0
			n := &notes{w: w, pages: s.G.Pages}
			n.do(t, "first", just(script.Format))
			armed := false
			for k := range 300 {
				a := d.act()
				switch a.Kind {
				case script.Arm:
					armed = a.N > 0
				case script.Crash, script.On:
					armed = false
				case script.Format:
					if armed { // a Format that is cut off leaves nothing
						continue
					}
				}
				n.do(t, fmt.Sprint("act ", k), a)
			}
			if x, twice := w.Base().S.Twice(); twice {
				t.Error("two blocks were sealed with one nonce:", x)
			}
			if _, _, clash := w.Base().B.Clash(); clash {
				t.Error("two texts have one sum")
			}
		})
	}
}
