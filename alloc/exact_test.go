package alloc_test

import (
	"bytes"
	"fmt"
	"math"
	"math/rand/v2"
	"slices"
	"testing"

	"garderobe/api"
	"garderobe/handle"
)

// exact fails unless a call answers, gets and puts what the model says, in that order, and nothing else; whichever of
// these goes wrong, and at which of them the batch is full, nothing has changed.
type exact struct {
	*world
	m      *model
	held   []int // the blocks that the batch has ahead of the call
	c      call
	want   answer
	after  *model
	events []event
}

// check holds a call against the model.
func (w *world) check(m *model, held []int, c call) {
	w.t.Helper()
	x := &exact{world: w, m: m, held: held, c: c}
	x.want, x.after, x.events = c.by(m)
	x.plain()
	x.tampered()
	x.down()
	x.poisoned()
	x.full()
	x.broken()
}

// have are the blocks of the batch.
func (x *exact) have() map[int][]byte {
	l := map[int][]byte{}
	for _, k := range x.held {
		l[k] = x.m.blocks[k]
	}
	return l
}

// reads are the blocks that events take from the store, in order, each once.
func (x *exact) reads(events []event) []int {
	var l []int
	own := slices.Clone(x.held)
	for _, e := range events {
		if !slices.Contains(own, e.k) {
			own = append(own, e.k)
			if !e.put {
				l = append(l, e.k)
			}
		}
	}
	return l
}

// keys are the blocks that the batch has behind events.
func (x *exact) keys(events []event) []int {
	l := slices.Clone(x.held)
	for _, e := range events {
		if e.put && !slices.Contains(l, e.k) {
			l = append(l, e.k)
		}
	}
	slices.Sort(l)
	return l
}

// fails fails unless the call is refused with that error, and changes nothing; it tells which spoilt blocks were read.
func (x *exact) fails(what string, r *run, e, state api.Errno) []int {
	x.t.Helper()
	before := shoot(r.a)
	want := answer{e: e, items: none(x.c)}
	if got := x.c.on(r.a); got != want || r.s.State() != state {
		x.t.Fatalf("%v, %s: %v, state %d; not %v, state %d", x.c, what, got, r.s.State(), want, state)
	}
	if now := shoot(r.a); now != before {
		x.t.Fatalf("%v, %s: it has changed:\n%v\n%v", x.c, what, before, now)
	}
	return r.was()
}

// answers fails unless the call answers what it should, and all stands as it should then.
func (x *exact) answers(what string, r *run) {
	x.t.Helper()
	if got := x.c.on(r.a); got != x.want {
		x.t.Fatalf("%v, %s: %v, not %v", x.c, what, got, x.want)
	}
	keys := x.held
	if x.want.e == api.OK {
		keys = x.keys(x.events)
	}
	if got, want := shoot(r.a), x.after.stands(keys); got != want {
		x.t.Fatalf("%v, %s: it stands\n%v\nnot\n%v", x.c, what, got, want)
	}
}

// plain: all goes well, with all blocks spoilt that are not to be read.
func (x *exact) plain() {
	x.t.Helper()
	r := x.open(x.have(), 100)
	reads := x.reads(x.events)
	r.spoilsBut(reads)
	texts := r.book.Len()
	x.answers("plain", r)
	more := 0
	for _, k := range reads {
		if k > x.m.maps() { // New has read all others
			more++
		}
	}
	if n := r.book.Len() - texts; n != more || r.s.State() != api.OK {
		x.t.Fatalf("%v: %d other blocks read, not %d; state %d", x.c, n, more, r.s.State())
	}
}

// tampered: each block that is read is another one than it was.
func (x *exact) tampered() {
	x.t.Helper()
	reads := x.reads(x.events)
	for i, k := range reads {
		r := x.open(x.have(), 100)
		r.spoilsBut(reads[:i])
		if l := x.fails(fmt.Sprint("block ", k), r, api.ErrTampered, api.ErrTampered); !slices.Equal(l, []int{k}) {
			x.t.Fatalf("%v: blocks %v are read, not %d", x.c, l, k)
		}
	}
}

// down: the power is off.
func (x *exact) down() {
	x.t.Helper()
	r := x.open(x.have(), 100)
	x.base.D.Crash()
	if len(x.reads(x.events)) > 0 {
		x.fails("power off", r, api.ErrDown, api.ErrDown)
		return
	}
	x.answers("power off", r)
}

// poisoned: the store is so ahead of the call.
func (x *exact) poisoned() {
	x.t.Helper()
	r := x.open(x.have(), 100)
	r.spoils(0)
	r.s.Read(0)
	if len(x.reads(x.events)) > 0 || slices.ContainsFunc(x.events, func(e event) bool { return e.put }) {
		x.fails("poisoned", r, api.ErrTampered, api.ErrTampered)
		return
	}
	x.answers("poisoned", r)
}

// full: the batch has no room for each block that is put, or just room for all.
func (x *exact) full() {
	x.t.Helper()
	for i, e := range x.events {
		keys := x.keys(x.events[:i])
		if !e.put || slices.Contains(keys, e.k) {
			continue
		}
		r := x.open(x.have(), len(keys))
		r.spoilsBut(x.reads(x.events[:i]))
		if l := x.fails(fmt.Sprint("no room for ", e.k), r, api.ErrTxFull, api.OK); len(l) > 0 {
			x.t.Fatalf("%v, no room for %d: %v are read", x.c, e.k, l)
		}
	}
	x.answers("just room", x.open(x.have(), len(x.keys(x.events))))
}

// broken: each page of slots that is got may not be.
func (x *exact) broken() {
	x.t.Helper()
	for i, e := range x.events {
		if !e.slots || slices.ContainsFunc(x.events[:i], func(o event) bool { return o.k == e.k }) {
			continue
		}
		for _, data := range ruins(x.m.blocks[e.k]) {
			have := x.have()
			have[e.k] = data
			r := x.open(have, 100)
			r.spoilsBut(x.reads(x.events[:i]))
			if l := x.fails(fmt.Sprint("broken ", e.k), r, api.ErrForm, api.OK); len(l) > 0 {
				x.t.Fatalf("%v, broken %d: %v are read", x.c, e.k, l)
			}
		}
	}
}

// ruins are blocks that may not be, of one that may.
func ruins(b []byte) [][]byte {
	one := bytes.Clone(b)
	one[1] ^= 64
	l := [][]byte{one, slices.Repeat([]byte{255}, wide)}
	if bytes.Equal(b, make([]byte, wide)) {
		last := make([]byte, wide)
		last[255] = 1
		l = append(l, last)
	}
	return l
}

// some are a few of the numbers below n, rising.
func some(r *rand.Rand, n int) []int {
	var l []int
	few := r.IntN(4)
	for k := range n {
		if few == 3 || few > 0 && r.IntN(3) < few {
			l = append(l, k)
		}
	}
	return l
}

// strangers are handles that are nobody's in a model.
func (m *model) strangers(r *rand.Rand) []handle.Handle {
	l := []handle.Handle{0, 1, math.MaxUint64, maxSerial, name(0, 0, m.next), name(0, 16, 1), name(15, 0, 1), name(63, 15, maxSerial), name(64, 0, 1), name(255, 255, 1)}
	for _, h := range m.objects() {
		l = append(l, h+1, h^1<<40, h^1<<48, h^3<<48, h^1<<52, h^1<<55, h^1<<56, h^1<<61, h^1<<62, h^1<<63, h+1<<56, h&^maxSerial)
	}
	for p := range len(m.pages) + 2 {
		l = append(l, name(p, r.IntN(16), 1+r.Uint64N(m.next)))
	}
	theirs := m.objects()
	return slices.DeleteFunc(l, func(h handle.Handle) bool { return slices.Contains(theirs, h) })
}

// any is a handle: of an object for the most part.
func (m *model) any(r *rand.Rand) handle.Handle {
	if l := m.objects(); len(l) > 0 && r.IntN(8) > 0 {
		return l[r.IntN(len(l))]
	}
	l := m.strangers(r)
	return l[r.IntN(len(l))]
}

// length is a number of bytes: an edge for the most part; great ones are rarer.
func length(r *rand.Rand) int {
	edges := []int{-1, 0, 1, 8, 9, 16, 17, 24, 25, 32, 33, 48, 49, 64, 65, 96, 97, 119, 120, 121, 255, 256, 257, 511, 512, 513, 700, 768, 769, 1024, 1025, 2048, 4095, 4096, 4097, math.MaxInt, math.MinInt}
	switch r.IntN(6) {
	case 0:
		return 1 + r.IntN(800)
	case 1, 2:
		return 1 + r.IntN(120)
	}
	return edges[r.IntN(len(edges))]
}

// place is an offset and a number of bytes in an object of size bytes, now and then beyond it.
func place(r *rand.Rand, size int) (int, int) {
	switch r.IntN(10) {
	case 0:
		return []int{-1, size + 1, math.MinInt, math.MaxInt}[r.IntN(4)], []int{0, 1, math.MaxInt, -1}[r.IntN(4)]
	case 1:
		return r.IntN(size + 1), []int{-1, math.MinInt, math.MaxInt, math.MaxInt - 1, size + 1}[r.IntN(5)]
	case 2:
		return r.IntN(size + 1), 0
	case 3:
		return 0, size
	}
	at := r.IntN(size + 1)
	return at, r.IntN(size - at + 2)
}

// chance is a call that fits a model, or nearly so.
func (m *model) chance(r *rand.Rand, kind string) call {
	c := call{kind: kind, h: m.any(r), k: r.IntN(18) - 1, n: length(r)}
	if kind == "Set" && r.IntN(4) == 0 {
		c.h = 0
	}
	size := 40
	if _, _, o := m.copy().find(c.h); o != nil {
		size = len(o.data)
		if kind == "Realloc" && r.IntN(2) == 0 {
			c.n = max(1, min(4096, size-260+r.IntN(520)))
		}
	}
	switch kind {
	case "Read":
		c.at, c.n = place(r, size)
	case "Write":
		var n int
		if c.at, n = place(r, size); n > 0 {
			c.b = text(r.Uint64(), min(n, 5000))
		}
	}
	return c
}

// kinds are all kinds of calls.
func kinds() []string {
	return []string{"Alloc", "Free", "Realloc", "Write", "Set", "Read", "Size", "Root", "Walk", "Stat"}
}

// grown is a model behind some calls.
func grown(r *rand.Rand, pages, calls int) *model {
	m := blank(pages)
	for range calls {
		kind := kinds()[r.IntN(5)]
		if r.IntN(3) == 0 {
			kind = "Alloc"
		}
		_, m, _ = m.chance(r, kind).by(m)
		m.events = nil
	}
	return m
}

// P23.1 to P23.5, and all that the chapter's words say of what is got and put: calls of all kinds, of heaps of all kinds.
func TestExact(t *testing.T) {
	for seed := range uint64(60) {
		t.Run(fmt.Sprint(seed), func(t *testing.T) {
			t.Parallel()
			r := rand.New(rand.NewPCG(seed, 1))
			n := []int{1, 2, 3, 5, 8, 15, 16, 17, 20, 33}[r.IntN(10)]
			m := grown(r, n, []int{0, 3, 10, 30, 60}[r.IntN(5)])
			w := begin(t, api.Geo{Pages: n, Tx: 24}, m.blocks)
			for range 6 {
				for _, kind := range kinds() {
					w.check(m, some(r, len(m.blocks)), m.chance(r, kind))
				}
			}
		})
	}
}
