package heap_test

import (
	"bytes"
	"fmt"
	"math"
	"slices"
	"testing"

	"garderobe/alloc"
	"garderobe/api"
	"garderobe/geom"
	"garderobe/handle"
	"garderobe/heap"
	"garderobe/logf"
	"garderobe/mend"
	"garderobe/meta"
	"garderobe/nvm"
	"garderobe/store"
	"garderobe/trust"
)

func small() api.Geo { return api.Geo{Pages: 6, Tx: 10} }

// ok fails unless a call is OK.
func ok(t *testing.T, e api.Errno) {
	t.Helper()
	if e != api.OK {
		t.Fatal("error", e)
	}
}

// is fails unless a call answers that error.
func is(t *testing.T, what string, want api.Errno) func(e api.Errno) {
	return func(e api.Errno) {
		t.Helper()
		if e != want {
			t.Errorf("%s: error %d, not %d", what, e, want)
		}
	}
}

// must is what a call answers that is to be OK.
func must[T any](t *testing.T) func(x T, e api.Errno) T {
	return func(x T, e api.Errno) T {
		t.Helper()
		ok(t, e)
		return x
	}
}

// opened is a heap that was formatted, and is open.
func opened(t *testing.T, write bool) (*heap.Heap, store.Base) {
	t.Helper()
	b := blank(small())
	h := on(t, b)
	ok(t, h.Format())
	ok(t, h.Open(write))
	return h, b
}

// reopened is a heap of a base that is opened for reading.
func reopened(t *testing.T, b store.Base) *heap.Heap {
	t.Helper()
	h := on(t, b)
	ok(t, h.Open(false))
	return h
}

// has fails unless an object has these bytes.
func has(t *testing.T, what string, h *heap.Heap, x handle.Handle, want []byte) {
	t.Helper()
	if n, e := h.Size(x); e != api.OK || n != len(want) {
		t.Errorf("%s: Size of %x: %d, error %d; not %d", what, x, n, e, len(want))
	}
	if b, e := h.Read(x, 0, len(want)); e != api.OK || !bytes.Equal(b, want) {
		t.Errorf("%s: Read of %x: %x, error %d; not %x", what, x, b, e, want)
	}
}

// held is all that a heap has: objects with their bytes, roots, how things stand.
func held(t *testing.T, h *heap.Heap) string {
	t.Helper()
	out := fmt.Sprint(must[alloc.Stat](t)(h.Stat()))
	for _, x := range must[[]alloc.Item](t)(h.Walk()) {
		out += fmt.Sprintf(" %x: %x", x.H, must[[]byte](t)(h.Read(x.H, 0, x.N)))
	}
	for k := range 16 {
		out += fmt.Sprintf(" %x", must[handle.Handle](t)(h.Root(k)))
	}
	return out
}

// spoil turns a bit of a sealed block, or turns it back.
func spoil(b store.Base, k int) {
	at := geom.Bytes(geom.SealedAt(b.G, k)) + 99
	x, _ := b.D.Load(at, 1)
	b.D.Tamper(at, []byte{x[0] ^ 2})
}

// The chapter's example, and the first two of the whole.
func TestExample(t *testing.T) {
	h, b := opened(t, true)
	if n := b.T.Read().Count; n != 3 {
		t.Error("the register's count is", n)
	}
	ok(t, h.Begin())
	x := must[handle.Handle](t)(h.Alloc(5))
	ok(t, h.Commit())
	ok(t, h.Close())
	ok(t, h.Open(false))
	has(t, "opened again", h, x, make([]byte, 5))
}

// P24.1: New of bases.
func TestNew(t *testing.T) {
	whole := blank(small())
	for k := range 16 {
		b := whole
		for bit, lacks := range []func(){func() { b.D = nil }, func() { b.T = nil }, func() { b.S = nil }, func() { b.B = nil }} {
			if k>>bit&1 > 0 {
				lacks()
			}
		}
		for _, g := range []api.Geo{small(), {}} {
			b.G = g
			if h, e := heap.New(b); (k > 0) != (e == api.ErrNil && h == nil) || (k == 0) != (e == api.OK && h != nil) {
				t.Errorf("%04b: %v, error %d", k, h, e)
			}
		}
	}
	if len(whole.D.Acts()) != 0 || whole.T.Read() != (api.Reg{}) {
		t.Error("New did something")
	}
}

// P24.1: what Format and Open say of a base that may not be, of a device that has no heap, and without power.
func TestBadBases(t *testing.T) {
	for _, g := range []api.Geo{{}, {Pages: 6, Tx: 3}, {Pages: 65, Tx: 10}, {Pages: 7, Tx: 10}, {Pages: 6, Tx: 11}, {Pages: math.MinInt, Tx: math.MaxInt}} {
		b := blank(small())
		b.G = g
		h := on(t, b)
		is(t, "Format", api.ErrArg)(h.Format())
		is(t, "Open", api.ErrArg)(h.Open(true))
		is(t, "State", api.ErrClosed)(h.State())
	}
	b := blank(small())
	h := on(t, b)
	is(t, "Open of noughts", api.ErrTampered)(h.Open(true))
	is(t, "Open of noughts", api.ErrTampered)(h.Open(false))
	is(t, "State", api.ErrClosed)(h.State())
	b.D.Crash()
	is(t, "Format", api.ErrDown)(h.Format())
	is(t, "Open", api.ErrDown)(h.Open(true))
	b.D.On()
	ok(t, h.Format())
	ok(t, h.Open(true))
	ok(t, h.Close())
	spoil(b, 4)
	is(t, "others wrote", api.ErrTampered)(h.Open(true))
	is(t, "State", api.ErrClosed)(h.State())
	spoil(b, 4)
	ok(t, h.Open(false))
	for _, count := range []uint64{api.MaxCount - 1, api.MaxCount} {
		b = blank(small())
		b.T = trust.At(b.D, api.Reg{Count: count})
		is(t, "Format", api.ErrExhausted)(on(t, b).Format())
	}
}

// P24.1: Open says what layer 23 says of blocks that are no heap's, and the heap stays closed.
func TestNoHeap(t *testing.T) {
	b := blank(small())
	ok(t, mend.Format(b))
	s := must[*store.Store](t)(mend.Open(b, true))
	ok(t, s.Commit(logf.Entry{K: 1, Data: bytes.Repeat([]byte{9}, 256)}))
	h := on(t, b)
	for _, write := range []bool{true, false} {
		count := b.T.Read().Count
		is(t, "Open", api.ErrForm)(h.Open(write))
		is(t, "State", api.ErrClosed)(h.State())
		is(t, "Close", api.ErrClosed)(h.Close())
		if h.Now() != nil || b.T.Read().Count-count > 1 || write != (b.T.Read().Count != count) {
			t.Error("Now, or the count", h.Now(), b.T.Read().Count, count)
		}
	}
	ok(t, h.Format())
	ok(t, h.Open(true))
}

// answers fails unless each call of a heap answers as the words have it.
func answers(t *testing.T, what string, h *heap.Heap, want func(kind string) api.Errno) {
	t.Helper()
	for _, kind := range all() {
		if e := want(kind); e != unasked {
			for _, c := range []call{{kind: kind, x: 1, n: 3, b: []byte("x")}, {kind: kind}, {kind: kind, x: math.MaxUint64, n: -1, at: -1, k: -1, yes: true}} {
				out := answer{e: e}
				if kind == "Walk" {
					out.items = "[]"
				}
				if got := c.does(h); got != out {
					t.Errorf("%s: %v: %v, not %d", what, c, got, e)
				}
			}
		}
	}
}

const unasked = -1

// in tells whether a kind of call is among those of a text.
func in(kind string, l ...string) bool { return slices.Contains(l, kind) }

// Of a nil heap, and of one that New did not make; then which answer comes first, of a heap that is closed, open for
// reading, open for writing, without a transaction and with one, poisoned, and without power.
func TestFirstAnswers(t *testing.T) {
	for _, h := range []*heap.Heap{nil, {}} {
		answers(t, "nil", h, func(string) api.Errno { return api.ErrNil })
		if h.Now() != nil {
			t.Error("Now of nil")
		}
	}
	closed := func(kind string) api.Errno {
		if in(kind, "Format", "Open") {
			return unasked
		}
		return api.ErrClosed
	}
	answers(t, "closed", on(t, blank(small())), closed)

	changes := []string{"Commit", "Abort", "Alloc", "Free", "Realloc", "Write", "Set"}
	h, _ := opened(t, false)
	answers(t, "open for reading", h, func(kind string) api.Errno {
		switch {
		case in(kind, "Format", "Open"):
			return api.ErrOpen
		case in(kind, changes...):
			return api.ErrNoTx
		case kind == "Begin":
			return api.ErrReadOnly
		case kind == "State":
			return api.OK
		}
		return unasked
	})
	h, _ = opened(t, true)
	answers(t, "open for writing", h, func(kind string) api.Errno {
		switch {
		case in(kind, "Format", "Open"):
			return api.ErrOpen
		case in(kind, changes...):
			return api.ErrNoTx
		case kind == "State":
			return api.OK
		}
		return unasked
	})
	ok(t, h.Begin())
	answers(t, "in a transaction", h, func(kind string) api.Errno {
		switch {
		case in(kind, "Format", "Open"):
			return api.ErrOpen
		case kind == "Begin":
			return api.ErrNested
		case kind == "State":
			return api.OK
		}
		return unasked
	})
	ok(t, h.Close())
	answers(t, "closed again", h, closed)
}

// P24.1 to P24.3: a heap that is poisoned, or down, says just that, whatever else there is to be said, till it is
// closed and opened again.
func TestPoisonedAndDown(t *testing.T) {
	for _, want := range []api.Errno{api.ErrTampered, api.ErrDown} {
		for _, kind := range []string{"reading", "writing", "transaction", "at the end"} {
			b := blank(small())
			b.T = trust.At(b.D, api.Reg{Count: api.MaxCount - 10})
			h := on(t, b)
			ok(t, h.Format())
			ok(t, h.Open(true))
			ok(t, h.Begin())
			x := must[handle.Handle](t)(h.Alloc(5))
			ok(t, h.Commit())
			ok(t, h.Close())
			ok(t, h.Open(kind != "reading"))
			if kind == "transaction" {
				ok(t, h.Begin())
				must[handle.Handle](t)(h.Alloc(300))
			}
			if kind == "at the end" {
				ok(t, b.T.Set(api.Reg{Count: api.MaxCount, Root: b.T.Read().Root}))
			}
			if want == api.ErrDown {
				b.D.Crash()
			} else {
				spoil(b, 2)
			}
			is(t, kind, api.OK)(h.State()) // nothing was read yet
			is(t, kind, want)(func() api.Errno { _, e := h.Read(x, 0, 5); return e }())
			b.D.On()
			if want == api.ErrTampered {
				spoil(b, 2)
			}
			for range 2 {
				answers(t, kind, h, func(kind string) api.Errno {
					switch {
					case in(kind, "Format", "Open"):
						return api.ErrOpen
					case kind == "Close":
						return unasked
					}
					return want
				})
			}
			if h.Now() == nil {
				t.Error("Now of a heap that is open")
			}
			ok(t, h.Close())
			ok(t, h.Open(false))
			has(t, "opened again", h, x, make([]byte, 5))
			if n := len(must[[]alloc.Item](t)(h.Walk())); n != 1 {
				t.Error(n, "objects")
			}
		}
	}
}

// P24.2: the register is at its end.
func TestExhausted(t *testing.T) {
	b := blank(small())
	b.T = trust.At(b.D, api.Reg{Count: api.MaxCount - 5})
	h := on(t, b)
	ok(t, h.Format())   // - 3
	ok(t, h.Open(true)) // - 2
	ok(t, h.Begin())
	x := must[handle.Handle](t)(h.Alloc(5))
	ok(t, h.Commit()) // - 1
	ok(t, h.Begin())
	ok(t, h.Write(x, 0, []byte("z")))
	ok(t, h.Commit()) // the end
	is(t, "Begin", api.ErrExhausted)(h.Begin())
	is(t, "Alloc", api.ErrNoTx)(func() api.Errno { _, e := h.Alloc(1); return e }())
	has(t, "at the end", h, x, []byte("z\x00\x00\x00\x00"))
	ok(t, h.Close())
	is(t, "Open for writing", api.ErrExhausted)(h.Open(true))
	is(t, "Open for writing", api.ErrClosed)(h.State())
	ok(t, h.Open(false))
	is(t, "Begin", api.ErrReadOnly)(h.Begin())
	has(t, "opened again", h, x, []byte("z\x00\x00\x00\x00"))
}

// P24.2: an error of the batch's Commit leaves the transaction; nested ones are told ahead of the register's end.
func TestCommitRefused(t *testing.T) {
	h, b := opened(t, true)
	ok(t, h.Begin())
	x := must[handle.Handle](t)(h.Alloc(5))
	ok(t, b.T.Set(api.Reg{Count: api.MaxCount, Root: b.T.Read().Root}))
	for range 2 {
		is(t, "Commit", api.ErrExhausted)(h.Commit())
		is(t, "Begin", api.ErrNested)(h.Begin())
		is(t, "State", api.OK)(h.State())
		has(t, "still there", h, x, make([]byte, 5))
	}
	ok(t, h.Abort())
	is(t, "Begin", api.ErrExhausted)(h.Begin())
	if n := len(must[[]alloc.Item](t)(h.Walk())); n != 0 {
		t.Error(n, "objects")
	}
}

// P24.2, P24.3: a transaction reads what it wrote; Abort leaves what was there; Commit what is there.
func TestTransactions(t *testing.T) {
	h, b := opened(t, true)
	empty := held(t, h)
	ok(t, h.Begin())
	x, y := must[handle.Handle](t)(h.Alloc(50)), must[handle.Handle](t)(h.Alloc(500))
	ok(t, h.Write(x, 10, []byte("abc")))
	ok(t, h.Write(y, 255, []byte("de")))
	ok(t, h.Set(0, x))
	ok(t, h.Set(15, y))
	one := held(t, h)
	if one == empty || held(t, reopenedCopy(t, b)) != empty {
		t.Error("a transaction is not there, or is committed")
	}
	ok(t, h.Abort())
	if held(t, h) != empty {
		t.Error("Abort")
	}
	is(t, "Abort", api.ErrNoTx)(h.Abort())
	is(t, "Commit", api.ErrNoTx)(h.Commit())

	ok(t, h.Begin())
	x, y = must[handle.Handle](t)(h.Alloc(50)), must[handle.Handle](t)(h.Alloc(500))
	ok(t, h.Write(x, 10, []byte("abc")))
	ok(t, h.Write(y, 255, []byte("de")))
	ok(t, h.Set(0, x))
	ok(t, h.Set(15, y))
	if held(t, h) != one {
		t.Error("the same calls again")
	}
	ok(t, h.Commit())
	is(t, "Commit", api.ErrNoTx)(h.Commit())
	if held(t, h) != one || held(t, reopenedCopy(t, b)) != one {
		t.Error("Commit")
	}

	ok(t, h.Begin())
	ok(t, h.Free(x))
	y = must[handle.Handle](t)(h.Realloc(y, 100))
	two := held(t, h)
	ok(t, h.Close())
	is(t, "Close", api.ErrClosed)(h.Close())
	ok(t, h.Open(true))
	if held(t, h) != one {
		t.Error("Close did not forget the transaction")
	}
	ok(t, h.Begin())
	ok(t, h.Free(x))
	must[handle.Handle](t)(h.Realloc(handle.Handle(1<<56|2), 100))
	ok(t, h.Commit())
	if held(t, h) != two {
		t.Error("the same calls again, opened again")
	}
	for round := range 5 { // one transaction behind the other
		ok(t, h.Begin())
		ok(t, h.Write(y, round, []byte{byte(round) + 1}))
		ok(t, h.Commit())
	}
	has(t, "many Commits", h, y, append([]byte{1, 2, 3, 4, 5}, make([]byte, 95)...))
	ok(t, h.Close())
	has(t, "opened again", reopened(t, b), y, append([]byte{1, 2, 3, 4, 5}, make([]byte, 95)...))
}

// reopenedCopy is a heap of what lasts on a base, on a device of its own.
func reopenedCopy(t *testing.T, b store.Base) *heap.Heap {
	t.Helper()
	o := blank(b.G)
	o.D.Tamper(0, b.D.Image())
	o.T = trust.At(o.D, b.T.Read())
	return reopened(t, o)
}

// P24.2: a transaction without a change, and one of as many blocks as there may be; of more nothing is done.
func TestRoomOfATransaction(t *testing.T) {
	b := blank(api.Geo{Pages: 20, Tx: 5})
	h := on(t, b)
	ok(t, h.Format())
	ok(t, h.Open(true))
	count, acts := b.T.Read().Count, len(b.D.Acts())
	ok(t, h.Begin())
	ok(t, h.Commit())
	if b.T.Read().Count != count || len(b.D.Acts()) != acts {
		t.Error("a Commit of nothing did something")
	}
	ok(t, h.Begin())
	must[handle.Handle](t)(h.Alloc(5)) // the head, a map, a page
	must[handle.Handle](t)(h.Alloc(4096))
	must[handle.Handle](t)(h.Alloc(15)) // a page, and the second map: it is the last page but two
	if l := h.Now().Batch().Keys(); !slices.Equal(l, []int{0, 1, 2, 3, 20}) {
		t.Error("blocks", l)
	}
	was := held(t, h)
	is(t, "Alloc", api.ErrTxFull)(func() api.Errno { _, e := h.Alloc(30); return e }())
	is(t, "Write", api.ErrTxFull)(h.Write(1<<56|2, 256, []byte("x")))
	if held(t, h) != was {
		t.Error("a call that was refused changed something")
	}
	ok(t, h.Commit())
	if held(t, h) != was || held(t, reopenedCopy(t, b)) != was {
		t.Error("Commit")
	}
	ok(t, h.Begin())
	must[handle.Handle](t)(h.Alloc(30))
	ok(t, h.Write(1<<56|2, 256, []byte("x")))
	is(t, "Free of sixteen pages", api.ErrTxFull)(h.Free(1<<56 | 2))
	ok(t, h.Commit())
}

// P24.3: Now is the objects as they stand, as a copy that goes its own way.
func TestNow(t *testing.T) {
	h, b := opened(t, true)
	if now := h.Now(); now == nil || now.Batch().Len() != 0 || !meta.Same(now.Meta(), meta.New(small())) {
		t.Error("Now of a new heap")
	}
	ok(t, h.Begin())
	x := must[handle.Handle](t)(h.Alloc(5))
	was := held(t, h)
	now := h.Now()
	if !slices.Equal(now.Batch().Keys(), []int{0, 1, 2}) {
		t.Error("Now in a transaction", now.Batch().Keys())
	}
	ok(t, now.Write(x, 0, []byte("x")))
	must[handle.Handle](t)(now.Alloc(300))
	ok(t, now.Set(3, x))
	if held(t, h) != was {
		t.Error("what was done to Now is seen")
	}
	ok(t, h.Write(x, 1, []byte("y")))
	if got := must[[]byte](t)(now.Read(x, 0, 5)); string(got) != "x\x00\x00\x00\x00" {
		t.Errorf("what was done to the heap is seen: %q", got)
	}
	before := h.Now()
	ok(t, h.Commit())
	if h.Now().Batch().Len() != 0 || before.Batch().Len() != 3 {
		t.Error("Now behind Commit", h.Now().Batch().Keys(), before.Batch().Keys())
	}
	now = h.Now()
	ok(t, now.Free(x))
	has(t, "committed", h, x, []byte("\x00y\x00\x00\x00"))
	ok(t, h.Begin())
	has(t, "in the next transaction", h, x, []byte("\x00y\x00\x00\x00"))
	ok(t, h.Abort())
	ok(t, h.Close())
	if h.Now() != nil {
		t.Error("Now of a closed heap")
	}
	if got := must[[]byte](t)(before.Read(x, 0, 5)); string(got) != "\x00y\x00\x00\x00" {
		t.Errorf("an old Now: %q", got)
	}
	ok(t, h.Open(false))
	has(t, "opened again", h, x, []byte("\x00y\x00\x00\x00"))
	if got := must[[]byte](t)(h.Now().Read(x, 0, 5)); string(got) != "\x00y\x00\x00\x00" || len(b.S.Used()) == 0 {
		t.Errorf("Now: %q", got)
	}
}

// Blocks are read as layer 23 says, and by no other call than Open.
func TestReads(t *testing.T) {
	h, b := opened(t, true)
	ok(t, h.Begin())
	x := must[handle.Handle](t)(h.Alloc(5))
	ok(t, h.Commit())
	for k := range geom.Sealed(b.G) {
		spoil(b, k)
	}
	ok(t, h.Begin())
	ok(t, h.Commit())
	ok(t, h.Begin())
	ok(t, h.Abort())
	must[handle.Handle](t)(h.Root(0))
	h.Now()
	ok(t, h.Begin())
	is(t, "Alloc", api.ErrSize)(func() api.Errno { _, e := h.Alloc(0); return e }())
	is(t, "Set", api.ErrArg)(h.Set(16, x))
	is(t, "Read", api.ErrHandle)(func() api.Errno { _, e := h.Read(0, 0, 0); return e }())
	is(t, "State", api.OK)(h.State())
	is(t, "Alloc", api.ErrTampered)(func() api.Errno { _, e := h.Alloc(300); return e }()) // Save gets the head
	is(t, "State", api.ErrTampered)(h.State())
	for k := range geom.Sealed(b.G) {
		spoil(b, k)
	}
	is(t, "Abort", api.ErrTampered)(h.Abort())
	ok(t, h.Close())
	ok(t, h.Open(true))
	for k := range geom.Sealed(b.G) {
		if k > 1 {
			spoil(b, k)
		}
	}
	ok(t, h.Begin())
	must[handle.Handle](t)(h.Alloc(300)) // the head and the map alone
	is(t, "Size", api.ErrTampered)(func() api.Errno { _, e := h.Size(x); return e }())
}

// change does what a transaction is to do, in one that is begun.
func change(t *testing.T, h *heap.Heap) {
	t.Helper()
	ok(t, h.Begin())
	l := must[[]alloc.Item](t)(h.Walk())
	ok(t, h.Free(l[0].H))
	ok(t, h.Write(l[1].H, 1, []byte("new")))
	must[handle.Handle](t)(h.Realloc(l[2].H, 90))
	must[handle.Handle](t)(h.Alloc(20))
	ok(t, h.Set(2, l[1].H))
}

// filled is an open heap of some objects.
func filled(t *testing.T, tx int) (*heap.Heap, store.Base) {
	t.Helper()
	b := blank(api.Geo{Pages: 6, Tx: tx})
	h := on(t, b)
	ok(t, h.Format())
	ok(t, h.Open(true))
	ok(t, h.Begin())
	for k, n := range []int{5, 300, 30, 120} {
		x := must[handle.Handle](t)(h.Alloc(n))
		ok(t, h.Write(x, 0, text(uint64(k), n)))
		ok(t, h.Set(k, x))
	}
	ok(t, h.Commit())
	return h, b
}

// P24.4, P0.2: the power goes at each act of a Commit: what is opened is all of it, or nothing of it, just as the
// register was set; and that for good.
func TestPowerInCommit(t *testing.T) {
	for _, picks := range [][]byte{nil, {1}, {0, 1}, {1, 0, 0, 1, 1}} {
		olds, news := 0, 0
		for act := 1; ; act++ {
			h, b := filled(t, 10)
			old := held(t, h)
			change(t, h)
			next, count := held(t, h), b.T.Read().Count
			b.D.Arm(act, picks...)
			e := h.Commit()
			if e == api.OK {
				if olds == 0 || news == 0 || held(t, h) != next {
					t.Error("Commit", olds, news)
				}
				break
			}
			is(t, "Commit", api.ErrDown)(e)
			is(t, "State", api.ErrDown)(h.State())
			b.D.Crash(picks...)
			b.D.On()
			is(t, "Begin", api.ErrDown)(h.Begin())
			want := old
			if b.T.Read().Count != count {
				want = next
				news++
			} else {
				olds++
			}
			ok(t, h.Close())
			for _, write := range []bool{true, false, true} {
				ok(t, h.Open(write))
				if got := held(t, h); got != want {
					t.Fatalf("act %d: %s, not %s", act, got, want)
				}
				ok(t, h.Close())
			}
			ok(t, h.Open(true))
			change(t, h) // and it goes on
			ok(t, h.Commit())
		}
	}
}

// P24.4: the power goes at each act of an Open behind such a loss; what is opened at last is the same.
func TestPowerInOpen(t *testing.T) {
	for _, cut := range []int{8, 20, 24, 30} { // ahead of the Set, and behind it
		for act := 1; ; act += 3 {
			h, b := filled(t, 10)
			old := held(t, h)
			change(t, h)
			next, count := held(t, h), b.T.Read().Count
			b.D.Arm(cut, 1, 0)
			is(t, "Commit", api.ErrDown)(h.Commit())
			want := old
			if b.T.Read().Count != count {
				want = next
			}
			ok(t, h.Close())
			b.D.On()
			b.D.Arm(act, 0, 1, 1)
			e := h.Open(true)
			if e == api.OK {
				if act < 10 || held(t, h) != want {
					t.Error("Open", act)
				}
				break
			}
			is(t, "Open", api.ErrDown)(e)
			is(t, "State", api.ErrClosed)(h.State())
			b.D.On()
			ok(t, h.Open(false))
			if got := held(t, h); got != want {
				t.Fatalf("cut %d, act %d: %s, not %s", cut, act, got, want)
			}
		}
	}
}

// P24.4: a transaction that is not committed leaves nothing, wherever the power goes, and whatever others write.
func TestNotCommitted(t *testing.T) {
	for _, picks := range [][]byte{nil, {1}, {0, 1}} {
		h, b := filled(t, 10)
		old, image := held(t, h), b.D.Image()
		change(t, h)
		if !bytes.Equal(b.D.Image(), image) || b.D.Pending() > 0 {
			t.Error("something was stored ahead of the Commit")
		}
		b.D.Crash(picks...)
		is(t, "Commit", api.ErrDown)(h.Commit())
		ok(t, h.Close())
		b.D.On()
		ok(t, h.Open(true))
		if held(t, h) != old {
			t.Error("something is there")
		}
	}
}

// P0.5, P23.7: of two scripts that differ in what is written alone the acts are the same; when all objects are freed,
// and that is committed, all bytes that last are.
func TestNoTrace(t *testing.T) {
	run := func(seed uint64) (store.Base, [][]byte) {
		h, b := filled(t, 10)
		l := must[[]alloc.Item](t)(h.Walk())
		images := [][]byte{}
		for round := range uint64(3) {
			ok(t, h.Begin())
			for k, x := range l {
				ok(t, h.Write(x.H, 0, text(seed*100+round*10+uint64(k), x.N)))
			}
			ok(t, h.Commit())
			images = append(images, b.D.Image())
		}
		ok(t, h.Begin())
		for _, x := range l {
			ok(t, h.Free(x.H))
		}
		ok(t, h.Commit())
		return b, append(images, b.D.Image())
	}
	a, one := run(1)
	b, other := run(2)
	if !slices.Equal(a.D.Acts(), b.D.Acts()) || a.T.Read() != b.T.Read() {
		t.Error("other acts, or another root")
	}
	for k := range one {
		if bytes.Equal(one[k], other[k]) != (k == 3) {
			t.Error("what lasts behind", k)
		}
	}
	h := reopened(t, a)
	if st := must[alloc.Stat](t)(h.Stat()); st != (alloc.Stat{Free: 6}) {
		t.Error("Stat", st)
	}
	for k := 1; k < geom.Sealed(a.G); k++ {
		if x := must[[]byte](t)(h.Now().Batch().Get(k)); !bytes.Equal(x, make([]byte, 256)) {
			t.Errorf("block %d: %x", k, x)
		}
	}
}

// P24.1: Format makes a heap without objects, whatever was there; it is refused while the heap is open.
func TestFormatAgain(t *testing.T) {
	h, b := filled(t, 10)
	was, image := held(t, h), b.D.Image()
	is(t, "Format", api.ErrOpen)(h.Format())
	if held(t, h) != was || !bytes.Equal(b.D.Image(), image) {
		t.Error("Format of an open heap did something")
	}
	ok(t, h.Close())
	ok(t, h.Format())
	is(t, "State", api.ErrClosed)(h.State())
	ok(t, h.Open(false))
	if st := must[alloc.Stat](t)(h.Stat()); st != (alloc.Stat{Free: 6}) {
		t.Error("Stat", st)
	}
}

// P0.1: somebody puts back all that was there a Commit ago.
func TestPutBack(t *testing.T) {
	h, b := filled(t, 10)
	image := b.D.Image()
	change(t, h)
	ok(t, h.Commit())
	ok(t, h.Close())
	now := b.D.Image()
	b.D.Tamper(0, image)
	is(t, "Open", api.ErrTampered)(h.Open(true))
	is(t, "Open", api.ErrTampered)(h.Open(false))
	b.D.Tamper(0, now)
	ok(t, h.Open(true))
}

// Rules 4 and 5: what is answered is a copy; what is handed in is neither changed nor kept.
func TestCopies(t *testing.T) {
	h, b := opened(t, true)
	ok(t, h.Begin())
	for _, n := range []int{40, 300} {
		x := must[handle.Handle](t)(h.Alloc(n))
		data := text(9, n)
		ok(t, h.Write(x, 0, data))
		if !bytes.Equal(data, text(9, n)) {
			t.Error("Write changed what was handed in")
		}
		clear(data)
		has(t, "written into", h, x, text(9, n))
		one := must[[]byte](t)(h.Read(x, 0, n))
		clear(one[:cap(one)])
		has(t, "written into", h, x, text(9, n))
	}
	l := must[[]alloc.Item](t)(h.Walk())
	clear(l[:cap(l)])
	if l = must[[]alloc.Item](t)(h.Walk()); len(l) != 2 || l[0].N != 40 || l[1].N != 300 {
		t.Error("Walk", l)
	}
	m := h.Now().Meta()
	clear(m.Pages)
	if st := must[alloc.Stat](t)(h.Stat()); st != (alloc.Stat{Free: 3, Slots: 1, Great: 2, Objects: 2, Bytes: 340}) {
		t.Error("Stat", st)
	}
	b.G, b.D = api.Geo{}, nvm.New(1) // the heap has its base as it was
	ok(t, h.Commit())
	ok(t, h.Close())
	ok(t, h.Open(true))
}
