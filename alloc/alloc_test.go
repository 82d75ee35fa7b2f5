package alloc_test

import (
	"bytes"
	"fmt"
	"math"
	"slices"
	"testing"

	"garderobe/alloc"
	"garderobe/api"
	"garderobe/batch"
	"garderobe/handle"
	"garderobe/meta"
)

// fresh is objects of a new store of n pages, whose batch may have all blocks.
func fresh(t *testing.T, n int) *alloc.Alloc {
	t.Helper()
	a, _ := over(t, made(t, api.Geo{Pages: n, Tx: 24}), 100)
	return a
}

// must is what a call answers that is to be OK.
func must[T any](t *testing.T) func(x T, e api.Errno) T {
	return func(x T, e api.Errno) T {
		t.Helper()
		if e != api.OK {
			t.Fatal("error", e)
		}
		return x
	}
}

// ok fails unless a call is OK.
func ok(t *testing.T, e api.Errno) {
	t.Helper()
	if e != api.OK {
		t.Fatal("error", e)
	}
}

// refused fails unless a call answers an error, and nothing beside it.
func refused[T comparable](t *testing.T, what string, want api.Errno) func(x T, e api.Errno) {
	return func(x T, e api.Errno) {
		t.Helper()
		var none T
		if e != want || x != none {
			t.Errorf("%s: %v, error %d; not %d", what, x, e, want)
		}
	}
}

// has fails unless an object has these bytes.
func has(t *testing.T, a *alloc.Alloc, h handle.Handle, want []byte) {
	t.Helper()
	if n, e := a.Size(h); e != api.OK || n != len(want) {
		t.Errorf("%x: Size %d, error %d; not %d", h, n, e, len(want))
	}
	if b, e := a.Read(h, 0, len(want)); e != api.OK || !bytes.Equal(b, want) {
		t.Errorf("%x: Read: %x, error %d; not %x", h, b, e, want)
	}
}

// held holds calls against the model, in heaps whose batch has nothing, something, all.
func held(t *testing.T, m *model, calls ...call) {
	t.Helper()
	w := begin(t, api.Geo{Pages: len(m.pages), Tx: 24}, m.blocks)
	all := make([]int, len(m.blocks))
	for k := range all {
		all[k] = k
	}
	for _, c := range calls {
		w.check(m, nil, c)
		w.check(m, all[:1+m.maps()], c)
		w.check(m, all, c)
	}
}

// The chapter's example.
func TestExample(t *testing.T) {
	a := fresh(t, 4)
	h := must[handle.Handle](t)(a.Alloc(10))
	if h != 1 {
		t.Errorf("Alloc(10): %016x", uint64(h))
	}
	ok(t, a.Write(h, 3, []byte("xy")))
	if b, e := a.Read(h, 2, 4); e != api.OK || string(b) != "\x00xy\x00" {
		t.Errorf("Read: %q, error %d", b, e)
	}
}

// edges are numbers of bytes about all borders.
func edges() []int {
	l := []int{math.MinInt, -4096, -1, 0, 1, 120, 121, 122, 255, 256, 257, 511, 512, 513, 3840, 3841, 4095, 4096, 4097, 65536 + 5, 1 << 32, 1<<32 + 5, math.MaxInt}
	for _, n := range sizes {
		l = append(l, n-1, n, n+1)
	}
	return l
}

// P23.2: objects of all sizes: of noughts, in the first page; of what is no size nothing.
func TestSizes(t *testing.T) {
	t.Parallel()
	for _, n := range edges() {
		a := fresh(t, 17)
		if n < 1 || n > 4096 {
			refused[handle.Handle](t, fmt.Sprint("Alloc of ", n), api.ErrSize)(a.Alloc(n))
			continue
		}
		if h := must[handle.Handle](t)(a.Alloc(n)); h != 1 {
			t.Errorf("Alloc(%d): %016x", n, uint64(h))
		}
		has(t, a, 1, make([]byte, n))
		want := alloc.Stat{Free: 16, Slots: 1, Objects: 1, Bytes: n}
		keys := []int{0, 1, 3}
		if n > 120 {
			run := (n + 255) / 256
			want = alloc.Stat{Free: 17 - run, Great: run, Objects: 1, Bytes: n}
			keys = []int{0, 1}
		}
		if st := must[alloc.Stat](t)(a.Stat()); st != want {
			t.Errorf("Alloc(%d): Stat %v, not %v", n, st, want)
		}
		if !slices.Equal(a.Batch().Keys(), keys) {
			t.Errorf("Alloc(%d): blocks %v, not %v", n, a.Batch().Keys(), keys)
		}
		if h := must[handle.Handle](t)(a.Alloc(100)); uint64(h)&maxSerial != 2 {
			t.Errorf("a second one: %016x", uint64(h))
		}
	}
}

// P23.2: all slots, and all pages, till there is no space left; what is freed is found again, the first place first.
func TestTillNoSpace(t *testing.T) {
	t.Parallel()
	many := map[int]int{8: 16, 16: 10, 24: 8, 32: 6, 48: 4, 64: 3, 96: 2, 120: 2, 121: 1, 256: 1}
	for n, each := range many {
		a := fresh(t, 3)
		var l []handle.Handle
		for k := range 3 * each {
			h := must[handle.Handle](t)(a.Alloc(n))
			if want := name(k/each, k%each, uint64(k+1)); h != want {
				t.Fatalf("Alloc(%d): %016x, not %016x", n, uint64(h), uint64(want))
			}
			ok(t, a.Write(h, 0, text(uint64(k), n)))
			l = append(l, h)
		}
		for _, size := range []int{n, 1, 120, 121, 4096} {
			refused[handle.Handle](t, fmt.Sprintf("no room for %d beside %d", size, n), api.ErrNoSpace)(a.Alloc(size))
		}
		if next := a.Meta().Roots.Next; next != uint64(3*each+1) {
			t.Errorf("%d bytes: the next serial is %d", n, next)
		}
		var items []alloc.Item
		for k, h := range l {
			has(t, a, h, text(uint64(k), n))
			items = append(items, alloc.Item{H: h, N: n})
		}
		if got := must[[]alloc.Item](t)(a.Walk()); !slices.Equal(got, items) {
			t.Errorf("%d bytes: Walk: %v, not %v", n, got, items)
		}
		ok(t, a.Free(l[len(l)-1]))
		ok(t, a.Free(l[1]))
		for _, was := range []handle.Handle{l[1], l[len(l)-1]} {
			h := must[handle.Handle](t)(a.Alloc(n))
			if h&^maxSerial != was&^maxSerial || h == was {
				t.Errorf("%d bytes: %016x where %016x was", n, uint64(h), uint64(was))
			}
			has(t, a, h, make([]byte, n))
		}
		refused[handle.Handle](t, "no room again", api.ErrNoSpace)(a.Alloc(n))
	}
}

// P23.2: where places are found: slots of the class ahead of a free page, whichever comes first; of runs the first one.
func TestPlaces(t *testing.T) {
	a := fresh(t, 8)
	var l []handle.Handle
	take := func(n int, want handle.Handle) {
		t.Helper()
		h := must[handle.Handle](t)(a.Alloc(n))
		if h&^maxSerial != want {
			t.Errorf("Alloc(%d): %016x, not at %016x", n, uint64(h), uint64(want))
		}
		l = append(l, h)
	}
	take(300, 0)             // pages 0, 1
	take(100, name(2, 0, 0)) // class 7
	take(5, name(3, 0, 0))   // class 0
	take(110, name(2, 1, 0)) // the second slot
	take(120, name(4, 0, 0)) // another page of class 7
	take(700, name(5, 0, 0)) // pages 5, 6, 7
	ok(t, a.Free(l[0]))      // pages 0, 1
	take(100, name(4, 1, 0)) // though there is a free page ahead
	take(100, 0)             // page 0
	take(7, name(3, 1, 0))   // page 3
	take(200, name(1, 0, 0)) // page 1
	ok(t, a.Free(l[1]))      // slot 0 of page 2
	ok(t, a.Free(l[4]))      // slot 0 of page 4
	take(97, name(0, 1, 0))  // the first page that has a free slot
	take(97, name(2, 0, 0))  //
	take(97, name(4, 0, 0))  //
	ok(t, a.Free(l[5]))      // pages 5, 6, 7
	take(256, name(5, 0, 0)) //
	take(1, name(3, 2, 0))   //
	ok(t, a.Free(l[9]))      // page 1
	take(512, name(6, 0, 0)) // page 1 is too short
	take(30, name(1, 0, 0))  //
	refused[handle.Handle](t, "no page", api.ErrNoSpace)(a.Alloc(40))
}

// P23.2, P23.3: the next serial below its greatest, at it, and beyond it.
func TestSerials(t *testing.T) {
	t.Parallel()
	for _, next := range []uint64{1, 2, 1 << 32, maxSerial - 1, maxSerial, maxSerial + 1} {
		m := with(20, call{kind: "Alloc", n: 5}, call{kind: "Alloc", n: 600}, call{kind: "Alloc", n: 5}, call{kind: "Set", k: 3, h: 1})
		m.next = max(next, m.next)
		m.settle()
		small, great := handle.Handle(1), name(1, 0, 2)
		held(t, m, call{kind: "Alloc", n: 5}, call{kind: "Alloc", n: 100}, call{kind: "Alloc", n: 700}, call{kind: "Alloc", n: 0}, call{kind: "Alloc", n: 4097},
			call{kind: "Realloc", h: small, n: 8}, call{kind: "Realloc", h: small, n: 9}, call{kind: "Realloc", h: small, n: 121}, call{kind: "Realloc", h: small, n: 4097}, call{kind: "Realloc", h: small, n: 0},
			call{kind: "Realloc", h: great, n: 768}, call{kind: "Realloc", h: great, n: 513}, call{kind: "Realloc", h: great, n: 512}, call{kind: "Realloc", h: great, n: 769}, call{kind: "Realloc", h: great, n: 3}, call{kind: "Realloc", h: great, n: -1},
			call{kind: "Free", h: small}, call{kind: "Free", h: great}, call{kind: "Write", h: great, b: []byte("x")})
	}
	full := with(2, call{kind: "Alloc", n: 200}, call{kind: "Alloc", n: 200})
	for _, next := range []uint64{3, maxSerial, maxSerial + 1} {
		full.next = next
		full.settle() // no page is left: which of both is told?
		held(t, full, call{kind: "Alloc", n: 1}, call{kind: "Alloc", n: 121}, call{kind: "Alloc", n: -1}, call{kind: "Realloc", h: 1, n: 1}, call{kind: "Realloc", h: 1, n: 257}, call{kind: "Realloc", h: 1, n: 256})
	}
	a := fresh(t, 2)
	r := handle.Roots{Next: maxSerial}
	ok(t, a.Batch().Put(0, must[[]byte](t)(r.Bytes())))
	a = must[*alloc.Alloc](t)(alloc.New(a.Batch(), api.Geo{Pages: 2, Tx: 24}))
	if h := must[handle.Handle](t)(a.Alloc(3)); h != maxSerial {
		t.Errorf("the last serial: %016x", uint64(h))
	}
	refused[handle.Handle](t, "no serial is left", api.ErrExhausted)(a.Alloc(3))
	ok(t, a.Free(maxSerial))
	refused[handle.Handle](t, "no serial is left, all pages are free", api.ErrExhausted)(a.Alloc(3))
}

// mixed is a heap of all kinds of pages: two objects of slots of one class, one alone in a page, great ones of one page
// and of three, a free page between, roots that name each.
func mixed() *model {
	m := with(18,
		call{kind: "Alloc", n: 20}, call{kind: "Alloc", n: 24}, // page 0
		call{kind: "Alloc", n: 90},                               // page 1
		call{kind: "Alloc", n: 200}, call{kind: "Alloc", n: 700}, // pages 2; 3 to 5
		call{kind: "Alloc", n: 300}, call{kind: "Alloc", n: 130}, // pages 6, 7; 8
		call{kind: "Free", h: name(6, 0, 6)})
	for k, h := range m.objects() {
		for _, at := range []int{k, 15 - k} {
			_, m, _ = call{kind: "Set", k: at, h: h}.by(m)
		}
		_, _, o := m.copy().find(h)
		_, m, _ = call{kind: "Write", h: h, b: text(uint64(h), len(o.data))}.by(m)
	}
	m.events = nil
	return m
}

// P23.2: Free of all that may be handed in.
func TestFree(t *testing.T) {
	t.Parallel()
	m := mixed()
	var l []call
	for _, h := range m.objects() {
		l = append(l, call{kind: "Free", h: h})
	}
	held(t, m, l...)
	nobodys(t, m, "Free")
	for _, c := range l { // all of them but one
		o := mixed()
		for _, other := range l {
			if other.h != c.h {
				_, o, _ = other.by(o)
			}
		}
		held(t, o, c)
	}
}

// nobodys holds a call of handles that are nobody's against the model.
func nobodys(t *testing.T, m *model, kind string) {
	t.Helper()
	l := []handle.Handle{0, 2, maxSerial, math.MaxUint64, name(6, 0, 6), name(7, 0, 6), name(17, 0, 1), name(18, 0, 1), name(63, 0, 1), name(64, 0, 1), name(4, 0, 5), name(5, 0, 5)}
	for _, h := range m.objects() {
		l = append(l, h+1, h^1<<47, h+1<<48, h+2<<48, h+3<<48, h+8<<48, h+16<<48, h+1<<56, h+64<<56, h+128<<56, h&^maxSerial)
	}
	for _, h := range l {
		if !slices.Contains(m.objects(), h) {
			held(t, m, call{kind: kind, h: h, n: 1, k: 2, b: []byte("x")}, call{kind: kind, h: h, n: -1, at: -1})
		}
	}
}

// P23.2: a handle of an object that was freed is nobody's, though another one stands in its place.
func TestFreed(t *testing.T) {
	a := fresh(t, 4)
	for _, n := range []int{5, 120, 300} {
		h := must[handle.Handle](t)(a.Alloc(n))
		ok(t, a.Set(4, h))
		ok(t, a.Set(9, h))
		ok(t, a.Free(h))
		other := must[handle.Handle](t)(a.Alloc(n))
		if other&^maxSerial != h&^maxSerial {
			t.Errorf("%x is not where %x was", other, h)
		}
		for _, k := range []int{4, 9} {
			if x := must[handle.Handle](t)(a.Root(k)); x != 0 {
				t.Errorf("root %d is %x", k, x)
			}
		}
		if e := a.Free(h); e != api.ErrHandle {
			t.Error("Free", e)
		}
		if e := a.Write(h, 0, []byte("x")); e != api.ErrHandle {
			t.Error("Write", e)
		}
		if e := a.Set(0, h); e != api.ErrHandle {
			t.Error("Set", e)
		}
		refused[handle.Handle](t, "Realloc", api.ErrHandle)(a.Realloc(h, 1))
		refused[int](t, "Size", api.ErrHandle)(a.Size(h))
		if b, e := a.Read(h, 0, 0); e != api.ErrHandle || b != nil {
			t.Error("Read", b, e)
		}
		has(t, a, other, make([]byte, n))
		ok(t, a.Free(other))
	}
}

// P23.3: each object with other many bytes: as many, fewer and more, where it is, and elsewhere.
func TestRealloc(t *testing.T) {
	t.Parallel()
	m := mixed()
	for _, h := range m.objects() {
		var l []call
		for _, n := range append(edges(), 17, 19, 20, 21, 23, 90, 110, 129, 130, 131, 199, 200, 201, 600, 699, 700, 701, 767, 768, 769) {
			l = append(l, call{kind: "Realloc", h: h, n: n})
		}
		t.Run(fmt.Sprintf("%x", h), func(t *testing.T) {
			t.Parallel()
			held(t, m, l...)
		})
	}
	nobodys(t, m, "Realloc")
}

// P23.3: the bytes are the first ones, with noughts behind, there and back; roots follow; handles stay in their class.
func TestReallocThereAndBack(t *testing.T) {
	t.Parallel()
	l := []int{1, 8, 9, 100, 120, 121, 256, 257, 700, 1024, 1025, 2000}
	for _, from := range l {
		for _, to := range l {
			a := fresh(t, 30)
			other := must[handle.Handle](t)(a.Alloc(from))
			h := must[handle.Handle](t)(a.Alloc(from))
			want := text(uint64(from), from)
			ok(t, a.Write(h, 0, want))
			ok(t, a.Set(0, h))
			ok(t, a.Set(1, other))
			ok(t, a.Set(15, h))
			for _, n := range []int{to, from, to} {
				was := h
				h = must[handle.Handle](t)(a.Realloc(h, n))
				stays := classOf(len(want)) == classOf(n) && (classOf(n) >= 0 || runOf(len(want)) == runOf(n))
				if (h == was) != stays {
					t.Errorf("from %d to %d bytes: %x, it was %x", len(want), n, h, was)
				}
				if !stays {
					refused[int](t, "the old one", api.ErrHandle)(a.Size(was))
				}
				want = append(want[:min(n, len(want)):min(n, len(want))], make([]byte, max(0, n-len(want)))...)
				has(t, a, h, want)
				has(t, a, other, make([]byte, from))
				for k, root := range []handle.Handle{0: h, 1: other, 2: 0, 15: h} {
					if x := must[handle.Handle](t)(a.Root(k)); x != root {
						t.Errorf("root %d: %x, not %x", k, x, root)
					}
				}
			}
		}
	}
}

// P23.3: the new object finds no place while the old one is there, though it would without it.
func TestReallocNoSpace(t *testing.T) {
	t.Parallel()
	great := with(4, call{kind: "Alloc", n: 700}, call{kind: "Set", k: 1, h: 1}, call{kind: "Write", h: 1, b: text(1, 700)})
	held(t, great, call{kind: "Realloc", h: 1, n: 512}, call{kind: "Realloc", h: 1, n: 769}, call{kind: "Realloc", h: 1, n: 256}, call{kind: "Realloc", h: 1, n: 8}, call{kind: "Realloc", h: 1, n: 768})
	small := with(1, call{kind: "Alloc", n: 5}, call{kind: "Set", k: 1, h: 1})
	held(t, small, call{kind: "Realloc", h: 1, n: 9}, call{kind: "Realloc", h: 1, n: 121}, call{kind: "Realloc", h: 1, n: 8}, call{kind: "Realloc", h: 1, n: 0})
	full := with(2, call{kind: "Alloc", n: 120}, call{kind: "Alloc", n: 120}, call{kind: "Alloc", n: 30}) // no free page
	held(t, full, call{kind: "Realloc", h: 1, n: 32}, call{kind: "Realloc", h: 1, n: 8}, call{kind: "Realloc", h: 1, n: 200}, call{kind: "Realloc", h: name(1, 0, 3), n: 120}, call{kind: "Realloc", h: name(1, 0, 3), n: 26})
}

// P23.4: bytes of small and great objects at all edges.
func TestReadAndWrite(t *testing.T) {
	t.Parallel()
	m := mixed()
	for _, h := range m.objects() {
		_, _, o := m.copy().find(h)
		size := len(o.data)
		var l []call
		for _, at := range []int{math.MinInt, -256, -1, 0, 1, size / 2, 255, 256, 257, 511, 512, size - 1, size, size + 1, size + 256, 1 << 32, math.MaxInt} {
			for _, n := range []int{math.MinInt, -1, 0, 1, 2, 257, size - at, size - at + 1, size, size + 1, math.MaxInt - at, math.MaxInt} {
				l = append(l, call{kind: "Read", h: h, at: at, n: n})
				if 0 <= n && n < 5000 {
					l = append(l, call{kind: "Write", h: h, at: at, b: text(uint64(n), n)})
				}
			}
		}
		t.Run(fmt.Sprintf("%x", h), func(t *testing.T) {
			t.Parallel()
			w := begin(t, api.Geo{Pages: len(m.pages), Tx: 24}, m.blocks)
			for _, c := range l {
				w.check(m, nil, c)
			}
		})
	}
	nobodys(t, m, "Read")
	nobodys(t, m, "Write")
	nobodys(t, m, "Size")
}

// P23.4: bytes over the border of two pages, explicitly; a nil list is an empty one.
func TestBorder(t *testing.T) {
	a := fresh(t, 6)
	ahead := must[handle.Handle](t)(a.Alloc(256))
	h := must[handle.Handle](t)(a.Alloc(600))
	behind := must[handle.Handle](t)(a.Alloc(256))
	ok(t, a.Write(h, 254, []byte("abcd")))
	ok(t, a.Write(h, 0, []byte("e")))
	ok(t, a.Write(h, 599, []byte("f")))
	ok(t, a.Write(h, 600, nil))
	ok(t, a.Write(h, 510, []byte{}))
	want := make([]byte, 600)
	copy(want[254:], "abcd")
	want[0], want[599] = 'e', 'f'
	has(t, a, h, want)
	has(t, a, ahead, make([]byte, 256))
	has(t, a, behind, make([]byte, 256))
	for k, from := range []int{0, 256, 512} {
		b := must[[]byte](t)(a.Batch().Get(2 + 1 + k))
		if !bytes.Equal(b[:min(256, 600-from)], want[from:min(600, from+256)]) {
			t.Errorf("page %d: %x", 1+k, b)
		}
	}
	if b, e := a.Read(h, 255, 2); e != api.OK || string(b) != "bc" {
		t.Errorf("Read: %q, error %d", b, e)
	}
}

// P23.5: roots of all numbers and handles.
func TestRoots(t *testing.T) {
	t.Parallel()
	m := mixed()
	for _, k := range []int{math.MinInt, -1, 0, 1, 7, 15, 16, 17, 256, 1 << 32, math.MaxInt} {
		l := []call{{kind: "Root", k: k}, {kind: "Set", k: k}, {kind: "Set", k: k, h: 2}}
		for _, h := range m.objects() {
			l = append(l, call{kind: "Set", k: k, h: h})
		}
		held(t, m, l...)
	}
	nobodys(t, m, "Set")
	held(t, blank(3), call{kind: "Set", k: 15}, call{kind: "Set", k: 16}, call{kind: "Set", h: 1}, call{kind: "Root", k: 15})
}

// P23.5: Walk and Stat of none, of one, and of many objects.
func TestWalkAndStat(t *testing.T) {
	t.Parallel()
	one := with(3, call{kind: "Alloc", n: 9}, call{kind: "Alloc", n: 10}, call{kind: "Free", h: 1})
	great := with(17, call{kind: "Alloc", n: 4096})
	for _, m := range []*model{blank(1), blank(64), one, great, mixed()} {
		held(t, m, call{kind: "Walk"}, call{kind: "Stat"})
	}
	a := fresh(t, 6)
	var want []alloc.Item
	for _, n := range []int{3, 500, 120, 8, 121} {
		want = append(want, alloc.Item{H: must[handle.Handle](t)(a.Alloc(n)), N: n})
	}
	want = []alloc.Item{want[0], want[3], want[1], want[2], want[4]} // page 0: both of class 0
	if l := must[[]alloc.Item](t)(a.Walk()); !slices.Equal(l, want) {
		t.Errorf("Walk: %v, not %v", l, want)
	}
	if st, want := must[alloc.Stat](t)(a.Stat()), (alloc.Stat{Free: 1, Slots: 2, Great: 3, Objects: 5, Bytes: 752}); st != want {
		t.Errorf("Stat: %v, not %v", st, want)
	}
}

// P23.2 to P23.5: a heap that this layer's calls did not make: objects that are shorter than those of their class,
// pages of slots without any, serials that are not given yet, or twice, roots that are nobody's.
func TestOdd(t *testing.T) {
	t.Parallel()
	m := blank(6)
	m.next = 9
	odd := func(p, c int, l ...object) {
		m.pages[p] = page{kind: slots, class: c, slots: append(l, make([]object, wide/(sizes[c]+8)-len(l))...)}
	}
	odd(0, 5, object{3, []byte("abc")}, object{}, object{4, text(1, 64)})
	odd(1, 7, object{20, []byte("d")}, object{3, text(2, 120)})
	odd(2, 0)
	m.roots[0], m.roots[3], m.roots[5] = name(5, 0, 1), name(0, 0, 3), name(3, 2, 1)
	m.settle()
	for _, h := range append(m.objects(), name(2, 0, 1), name(3, 2, 1)) {
		held(t, m, call{kind: "Free", h: h}, call{kind: "Size", h: h}, call{kind: "Read", h: h, n: 1}, call{kind: "Write", h: h, b: []byte("z")}, call{kind: "Set", k: 1, h: h})
		for _, n := range []int{1, 4, 8, 49, 64, 97, 120, 121} {
			held(t, m, call{kind: "Realloc", h: h, n: n})
		}
	}
	for _, n := range []int{5, 60, 100, 9, 300} {
		held(t, m, call{kind: "Alloc", n: n})
	}
	held(t, m, call{kind: "Walk"}, call{kind: "Stat"})
}

// P23.2: a free page that has slots of objects in spite of that, all of which are taken.
func TestFullFreePage(t *testing.T) {
	m := blank(1)
	full := with(1, call{kind: "Alloc", n: 120}, call{kind: "Alloc", n: 120})
	m.blocks[m.pageAt(0)] = full.blocks[m.pageAt(0)]
	r := begin(t, api.Geo{Pages: 1, Tx: 24}, m.blocks).open(nil, 100)
	refused[handle.Handle](t, "Alloc", api.ErrNoSpace)(r.a.Alloc(100))
	refused[handle.Handle](t, "Alloc of another class", api.ErrForm)(r.a.Alloc(1))
	if r.b.Len() != 0 || !meta.Same(r.a.Meta(), meta.New(r.g)) {
		t.Error("it has changed", r.b.Keys())
	}
}

// P23.1: New of what there is not, of geometries and blocks that may not be.
func TestNew(t *testing.T) {
	bad := []api.Geo{{}, {Pages: 0, Tx: 4}, {Pages: 65, Tx: 4}, {Pages: 4, Tx: 3}, {Pages: 4, Tx: 25}, {Pages: -1, Tx: 4}, {Pages: math.MaxInt, Tx: math.MaxInt}}
	g := api.Geo{Pages: 20, Tx: 6}
	_, s := over(t, made(t, g), 4)
	b := batch.New(s, 9)
	for _, x := range append(bad, g) {
		refused[*alloc.Alloc](t, "no batch", api.ErrNil)(alloc.New(nil, x))
	}
	for _, x := range bad {
		refused[*alloc.Alloc](t, "a geometry that may not be", api.ErrArg)(alloc.New(b, x))
		refused[*alloc.Alloc](t, "a batch that was not made", api.ErrArg)(alloc.New(&batch.Batch{}, x))
	}
	refused[*alloc.Alloc](t, "a batch that was not made", api.ErrNil)(alloc.New(&batch.Batch{}, g))
	a := must[*alloc.Alloc](t)(alloc.New(b, g))
	if a.Batch().Len() != 0 || !meta.Same(a.Meta(), meta.New(g)) {
		t.Error("a new store", a.Batch().Keys(), a.Meta())
	}
	ok(t, b.Put(1, slices.Repeat([]byte{1}, wide)))
	refused[*alloc.Alloc](t, "no map", api.ErrForm)(alloc.New(b, g))
	w := begin(t, g, mixed().copy().fit(20).blocks)
	for k := range 5 {
		r := w.open(nil, 4)
		r.spoils(k)
		r.spoils(22)
		x, e := alloc.New(batch.New(r.s, 4), g)
		if k < 3 && (e != api.ErrTampered || x != nil) || k >= 3 && (e != api.OK || !meta.Same(x.Meta(), r.a.Meta())) {
			t.Errorf("others wrote into block %d: error %d", k, e)
		}
	}
	r := w.open(nil, 4)
	r.base.D.Crash()
	refused[*alloc.Alloc](t, "power off", api.ErrDown)(alloc.New(r.b, g))
}

// fit is a model with as many pages as n.
func (m *model) fit(n int) *model {
	m.pages = append(m.pages, make([]page, n)...)[:n]
	return m.settle()
}

// P23.1: a geometry that has more pages, or fewer, than the store.
func TestOtherGeometry(t *testing.T) {
	a, _ := over(t, made(t, api.Geo{Pages: 4, Tx: 24}), 100)
	less := must[*alloc.Alloc](t)(alloc.New(a.Batch().Copy(), api.Geo{Pages: 2, Tx: 4}))
	must[handle.Handle](t)(less.Alloc(300))
	refused[handle.Handle](t, "two pages", api.ErrNoSpace)(less.Alloc(1))
	more := must[*alloc.Alloc](t)(alloc.New(a.Batch().Copy(), api.Geo{Pages: 6, Tx: 4}))
	h := must[handle.Handle](t)(more.Alloc(6 * 256))
	if b, e := more.Read(h, 0, 1); e != api.ErrRange || b != nil {
		t.Error("a page that the store does not have", b, e)
	}
	if e := more.Write(h, 4*256-1, []byte("xy")); e != api.ErrRange || more.Batch().Len() != 2 {
		t.Error("a page that the store does not have", e, more.Batch().Keys())
	}
	ok(t, more.Free(h)) // noughts are put, and nothing is got
	if more.Batch().Len() != 8 {
		t.Error("all blocks are put", more.Batch().Keys())
	}
	more = must[*alloc.Alloc](t)(alloc.New(a.Batch().Copy(), api.Geo{Pages: 6, Tx: 4}))
	h = must[handle.Handle](t)(more.Alloc(4 * 256)) // all pages that the store has
	was := shoot(more)
	refused[handle.Handle](t, "a page that the store does not have", api.ErrRange)(more.Alloc(5))
	refused[handle.Handle](t, "a page that the store does not have", api.ErrRange)(more.Realloc(h, 5))
	refused[handle.Handle](t, "a page that the store does not have", api.ErrRange)(more.Realloc(h, 300))
	if shoot(more) != was {
		t.Error("it has changed", more.Batch().Keys())
	}
}

// Of a nil one, and of one that New did not make.
func TestNil(t *testing.T) {
	for _, a := range []*alloc.Alloc{nil, {}} {
		for _, kind := range kinds() {
			for _, c := range []call{{kind: kind}, {kind: kind, n: -1, at: -1, k: -1, h: math.MaxUint64}, {kind: kind, n: 5, h: 1, b: []byte("x")}} {
				if got, want := c.on(a), (answer{e: api.ErrNil, items: none(c)}); got != want {
					t.Errorf("%v: %v", c, got)
				}
			}
		}
		if !meta.Same(a.Meta(), meta.Meta{}) || a.Copy() != nil || a.Batch() != nil {
			t.Error("Meta, Copy, Batch", a.Meta(), a.Copy(), a.Batch())
		}
	}
}

// P23.1: what is changed is put into the batch that New was given, all of it or nothing.
func TestTheBatch(t *testing.T) {
	base := made(t, api.Geo{Pages: 4, Tx: 6})
	_, s := over(t, base, 6)
	b := batch.New(s, 3)
	a := must[*alloc.Alloc](t)(alloc.New(b, base.G))
	h := must[handle.Handle](t)(a.Alloc(10))
	if !slices.Equal(b.Keys(), []int{0, 1, 2}) {
		t.Error("Alloc", b.Keys())
	}
	refused[handle.Handle](t, "no room", api.ErrTxFull)(a.Alloc(20))
	if a.Batch() != b || !slices.Equal(b.Keys(), []int{0, 1, 2}) {
		t.Error("refused", b.Keys())
	}
	ok(t, b.Commit())
	ok(t, a.Write(h, 0, []byte("abc")))
	if a.Batch() != b || !slices.Equal(b.Keys(), []int{2}) {
		t.Error("Write", b.Keys())
	}
	ok(t, b.Put(3, make([]byte, wide)))
	if x := must[[]byte](t)(a.Batch().Get(2)); !bytes.Equal(x[:14], []byte("\x0a\x00\x01\x00\x00\x00\x00\x00abc\x00\x00\x00")) {
		t.Errorf("page 0: %x", x)
	}
	o := a.Copy()
	if o.Batch() == b {
		t.Error("a copy has the same batch")
	}
	ok(t, o.Free(h))
	if !slices.Equal(b.Keys(), []int{2, 3}) {
		t.Error("a copy was changed", b.Keys())
	}
	refused[handle.Handle](t, "a copy has as much room", api.ErrTxFull)(o.Alloc(300))
	ok(t, b.Commit())
	again, _ := over(t, base, 6)
	has(t, again, h, []byte("abc\x00\x00\x00\x00\x00\x00\x00"))
}

// Rules 4 and 5: what is answered is a copy; what is handed in is neither changed nor kept.
func TestCopies(t *testing.T) {
	a := fresh(t, 8)
	var l []handle.Handle
	for _, n := range []int{40, 300} {
		h := must[handle.Handle](t)(a.Alloc(n))
		l = append(l, h)
		room := text(5, 600)
		ok(t, a.Write(h, 0, room[100:100+n]))
		if !bytes.Equal(room, text(5, 600)) {
			t.Error("Write changed what was handed in")
		}
		clear(room)
		want := text(5, 600)[100 : 100+n]
		has(t, a, h, want)
		one, other := must[[]byte](t)(a.Read(h, 1, n-2)), must[[]byte](t)(a.Read(h, 1, n-2))
		clear(one[:cap(one)])
		if !bytes.Equal(other, want[1:n-1]) {
			t.Error("two answers of Read share memory")
		}
		clear(other[:cap(other)])
		has(t, a, h, want)
		ok(t, a.Write(h, 0, must[[]byte](t)(a.Read(h, 0, n))))
		has(t, a, h, want)
	}
	was := shoot(a)
	items := must[[]alloc.Item](t)(a.Walk())
	clear(items[:cap(items)])
	if again := must[[]alloc.Item](t)(a.Walk()); again[0].H != l[0] || again[1] != (alloc.Item{H: l[1], N: 300}) {
		t.Error("Walk", again)
	}
	m := a.Meta()
	clear(m.Pages[:cap(m.Pages)])
	m.Roots.L[0] = 77
	if shoot(a) != was {
		t.Error("Meta")
	}
	o := a.Copy()
	clear(o.Meta().Pages)
	ok(t, o.Free(l[1]))
	ok(t, o.Set(3, l[0]))
	o.Batch().Abort()
	if shoot(a) != was {
		t.Error("Copy")
	}
	ok(t, a.Free(l[1]))
	if o.Batch().Len() != 0 {
		t.Error("the copied one was changed", o.Batch().Keys())
	}
}

// P23.6: no two objects have a byte in common.
func TestApart(t *testing.T) {
	a := fresh(t, 24)
	var l []handle.Handle
	var want [][]byte
	for k, n := range []int{1, 8, 8, 9, 120, 120, 120, 121, 300, 256, 24, 24, 48, 700, 64, 64, 64, 64, 1} {
		l, want = append(l, must[handle.Handle](t)(a.Alloc(n))), append(want, text(uint64(k), n))
	}
	for round := range 2 {
		for k := range l {
			k = (k*7 + round) % len(l)
			ok(t, a.Write(l[k], 0, want[k]))
		}
		for k, h := range l {
			has(t, a, h, want[k])
		}
	}
	for k, h := range l {
		ok(t, a.Free(h))
		for i := k + 1; i < len(l); i++ {
			has(t, a, l[i], want[i])
		}
	}
	for k := 1; k < 27; k++ {
		if b := must[[]byte](t)(a.Batch().Get(k)); !bytes.Equal(b, make([]byte, wide)) {
			t.Errorf("block %d: %x", k, b)
		}
	}
}
