package audit_test

import (
	"math"
	"math/rand/v2"
	"testing"

	"garderobe/api"
	"garderobe/audit"
	"garderobe/geom"
	"garderobe/mend"
	"garderobe/nvm"
	"garderobe/seal"
	"garderobe/store"
	"garderobe/trust"
)

// Example 1.
func TestExample(t *testing.T) {
	b := on(small(), api.Reg{}, nil)
	mend.Format(b)
	a, e := audit.New(b)
	n, f := a.Step(1000)
	kind, g := a.Found()
	if e != api.OK || n != 0 || f != api.OK || kind != 1 || g != api.OK {
		t.Error(e, n, f, kind, g)
	}
}

// P32.1: of a nil look, and of one that no call made.
func TestNil(t *testing.T) {
	for _, a := range []*audit.Audit{nil, {}} {
		for _, n := range []int{math.MinInt, -1, 0, 1, math.MaxInt} {
			steps(t, a, n, 0, api.ErrNil)
		}
		finds(t, "nil", a, 0, api.ErrNil)
	}
}

// refused fails if New doesn't answer e.
func refused(t *testing.T, what string, b store.Base, e api.Errno) {
	t.Helper()
	if a, got := audit.New(b); a != nil || got != e {
		t.Errorf("%s: New: error %d, not %d; %v", what, got, e, a)
	}
	if _, got := mend.Look(b); got != e {
		t.Errorf("%s: Look: error %d", what, got)
	}
}

// P32.1: bases that are nil in part, whatever else may not be; that may not be.
func TestNew(t *testing.T) {
	for _, g := range plans() {
		b := on(g, api.Reg{}, nil)
		for _, x := range nils(b) {
			refused(t, "nil in part", x, api.ErrNil)
			x.G = api.Geo{}
			refused(t, "nil in part, of no geometry", x, api.ErrNil)
		}
		for _, x := range strange(b) {
			refused(t, "a base that may not be", x, api.ErrArg)
			x.D.Crash()
			refused(t, "a base that may not be, off", x, api.ErrArg)
			x.D.On()
			x.T = nil
			refused(t, "a base that may not be, nil in part", x, api.ErrNil)
		}
	}
}

// P32.1: with the power off there is a look, which has no blocks yet.
func TestNewOff(t *testing.T) {
	b, _ := made(t, small())
	b.D.Crash()
	a := begun(t, b)
	n := geom.Total(b.G)
	steps(t, a, 0, n, api.OK)
	steps(t, a, 1, 0, api.ErrDown)
	steps(t, a, math.MaxInt, 0, api.ErrDown)
	steps(t, a, -1, 0, api.ErrArg)
	finds(t, "off", a, 0, api.ErrNone)
	b.D.On()
	steps(t, a, 0, n, api.OK)
	steps(t, a, n, 0, api.OK)
	finds(t, "on", a, mend.Whole, api.OK)
}

// P32.1: how many are still to be loaded, whatever the steps; not all: ErrNone.
func TestSteps(t *testing.T) {
	for seed, g := range plans() {
		b, _ := made(t, g)
		n := geom.Total(g)
		for _, size := range []int{1, 2, 3, 7, n - 1, n, n + 1, math.MaxInt} {
			a, left := begun(t, b), n
			for left > 0 {
				finds(t, "not all", a, 0, api.ErrNone)
				steps(t, a, -1, 0, api.ErrArg)
				steps(t, a, math.MinInt, 0, api.ErrArg)
				steps(t, a, 0, left, api.OK)
				left = max(0, left-size)
				steps(t, a, size, left, api.OK)
			}
			for _, more := range []int{0, 1, n, math.MaxInt} {
				steps(t, a, more, 0, api.OK)
			}
			steps(t, a, -1, 0, api.ErrArg)
			finds(t, "all", a, mend.Whole, api.OK)
		}
		r := rand.New(rand.NewPCG(uint64(seed), 5))
		a, left := begun(t, b), n
		for left > 0 {
			size := r.IntN(6)
			left = max(0, left-size)
			steps(t, a, size, left, api.OK)
		}
		finds(t, "by chance", a, mend.Whole, api.OK)
	}
}

// P32.1: the power goes between two steps: what was loaded stays, and is not loaded again.
func TestPower(t *testing.T) {
	b, _ := made(t, small())
	n, leaves := geom.Total(b.G), geom.Leaves(b.G)
	for k := range n + 1 {
		a := begun(t, b)
		steps(t, a, k, n-k, api.OK)
		b.D.Crash(1)
		image := b.D.Image()
		if k < n {
			steps(t, a, 1, 0, api.ErrDown)
			steps(t, a, math.MaxInt, 0, api.ErrDown)
			finds(t, "off", a, 0, api.ErrNone)
		} else {
			steps(t, a, 1, 0, api.OK)
			finds(t, "off, with all", a, mend.Whole, api.OK)
		}
		steps(t, a, 0, n-k, api.OK)
		b.D.Tamper(0, text(3, 256*k)) // what was loaded is not looked at again
		b.D.On()
		steps(t, a, n, 0, api.OK)
		finds(t, "on again", a, mend.Whole, api.OK)
		other := whole(t, b)
		want := mend.Wrong
		if k == 0 {
			want = mend.Whole
		}
		finds(t, "another look", other, want, api.OK)
		b.D.Tamper(0, image)
	}
	for k := range n { // what was not loaded yet is looked at as it is then
		a := begun(t, b)
		steps(t, a, k, n-k, api.OK)
		image := b.D.Image()
		turned(b, 256*k+9)
		steps(t, a, n, 0, api.OK)
		want := mend.Wrong
		if k >= leaves {
			want = mend.Whole
		}
		finds(t, "turned", a, want, api.OK)
		b.D.Tamper(0, image)
		finds(t, "turned back", a, want, api.OK)
	}
}

// P32.1: what is read is what was stored last, also if it doesn't last yet.
func TestPending(t *testing.T) {
	b, _ := made(t, small())
	b.D.Store(256, []byte{1, 2, 3})
	finds(t, "stored", whole(t, b), mend.Wrong, api.OK)
	b.D.Crash()
	b.D.On()
	finds(t, "gone", whole(t, b), mend.Whole, api.OK)
}

// alike fails if a look in steps of some size does not find what layer 16's Look tells; which is answered.
func alike(t *testing.T, what string, b store.Base, size int) int {
	t.Helper()
	want, e := mend.Look(b)
	a, left := begun(t, b), geom.Total(b.G)
	for left > 0 {
		left = max(0, left-size)
		steps(t, a, size, left, api.OK)
	}
	for range 3 { // what is found is found again
		finds(t, what, a, want, e)
	}
	return want
}

// P32.3: devices whose last Commit was cut off at each act, whichever words last; as the Look tells.
func TestCut(t *testing.T) {
	var seen [4]int
	acts := 2*3 + 1 + 1 + 2*3 + 1 + 3
	for act := 1; act <= acts; act++ {
		for k, picks := range [][]byte{nil, {1}, {0, 1, 1}} {
			b := cut(t, small(), act, picks...)
			seen[alike(t, "cut off", b, 1+(act+k)%5)]++
		}
	}
	if seen[mend.Whole] == 0 || seen[mend.Redone] == 0 {
		t.Error(seen)
	}
}

// P32.3: a byte that others wrote into each block of a device that is whole, and of one that is to be redone.
func TestTurned(t *testing.T) {
	for _, b := range []store.Base{cut(t, small(), 1), cut(t, small(), 10, 1, 0), cut(t, plans()[2], 11, 0, 1)} {
		var seen [4]int
		for block := range geom.Total(b.G) {
			for _, k := range []int{0, 12, 39, 255} {
				seen[alike(t, "turned", turned(twin(b), 256*block+k), 4)]++
			}
		}
		if seen[mend.Wrong] == 0 || seen[mend.Whole]+seen[mend.Redone] == 0 {
			t.Error(seen)
		}
	}
}

// P32.3: of what nobody formatted, or others wrote over as a whole, or put back.
func TestWrong(t *testing.T) {
	for _, g := range plans() {
		for _, image := range [][]byte{nil, text(1, 256*geom.Total(g))} {
			if alike(t, "nobody's", on(g, api.Reg{Count: 4}, image), 5) != mend.Wrong {
				t.Error("nobody's")
			}
		}
		b, x := made(t, g)
		image := b.D.Image()
		if e := x.Commit(entries(5, 0)...); e != api.OK {
			t.Fatal("Commit", e)
		}
		if alike(t, "committed", b, 9) != mend.Whole {
			t.Error("committed")
		}
		b.D.Tamper(0, image)
		if alike(t, "put back", b, 9) != mend.Wrong {
			t.Error("put back")
		}
	}
}

// P32.1: the register as it is when Found is asked, also if that is asked often.
func TestRegister(t *testing.T) {
	b, x := made(t, small())
	old := twin(b)
	if e := x.Commit(entries(6, 1)...); e != api.OK {
		t.Fatal("Commit", e)
	}
	now := on(b.G, old.T.Read(), b.D.Image()) // the blocks of then, the register of before
	a := whole(t, now)
	finds(t, "before", a, mend.Wrong, api.OK)
	if e := now.T.Set(b.T.Read()); e != api.OK {
		t.Fatal("Set", e)
	}
	finds(t, "then", a, mend.Whole, api.OK)
	r := b.T.Read()
	now.T.Set(api.Reg{Count: r.Count + 1, Root: r.Root})
	finds(t, "later", a, mend.Whole, api.OK)
	now.T.Set(api.Reg{Count: r.Count + 2})
	finds(t, "another root", a, mend.Wrong, api.OK)
	now.T.Set(api.Reg{Count: r.Count + 3, Root: r.Root})
	now.D.Crash()
	finds(t, "off", a, mend.Whole, api.OK)
}

// P32.1: what is to be redone is found again, as long as the register has the log's count.
func TestRedone(t *testing.T) {
	b := cut(t, small(), 10)
	a := whole(t, b)
	for range 3 {
		finds(t, "a log", a, mend.Redone, api.OK)
	}
	if e := b.T.Set(api.Reg{Count: b.T.Read().Count + 1, Root: b.T.Read().Root}); e != api.OK {
		t.Fatal("Set", e)
	}
	finds(t, "another count", a, mend.Wrong, api.OK)
	finds(t, "another count", whole(t, b), mend.Wrong, api.OK)
}

// Rules 3 and 6: no call does something to the base, but that Found sums by its book.
func TestLeft(t *testing.T) {
	for _, b := range []store.Base{cut(t, small(), 1), cut(t, small(), 10, 1, 0)} {
		was, acts, used, texts := twin(b), len(b.D.Acts()), len(b.S.Used()), b.B.Len()
		a := begun(t, b)
		a.Step(-1)
		a.Step(2)
		a.Found()
		a.Step(1000)
		if b.B.Len() != texts || len(b.S.Used()) != used {
			t.Error("New and Step sum, or seal")
		}
		still(t, "New, Step", b, was, acts)
		a.Found()
		a.Found()
		still(t, "Found", b, was, acts)
		if len(b.S.Used()) != used {
			t.Error("Found seals")
		}
		fresh := twin(b)
		whole(t, fresh).Found()
		if fresh.B.Len() < geom.Leaves(b.G) {
			t.Error("Found does not sum by the base's book", fresh.B.Len())
		}
	}
}

// Rule 5: a base that was handed in is not kept, but its four are; two looks have nothing in common.
func TestKept(t *testing.T) {
	b, _ := made(t, small())
	mine := b
	a := begun(t, mine)
	mine.D, mine.T, mine.S, mine.B, mine.G = nil, nil, nil, nil, api.Geo{}
	other := begun(t, b)
	steps(t, a, 3, geom.Total(b.G)-3, api.OK)
	steps(t, other, 1, geom.Total(b.G)-1, api.OK)
	steps(t, a, 1, geom.Total(b.G)-4, api.OK)
	steps(t, other, 1000, 0, api.OK)
	finds(t, "not all", a, 0, api.ErrNone)
	steps(t, a, 1000, 0, api.OK)
	finds(t, "all", a, mend.Whole, api.OK)
	finds(t, "all", other, mend.Whole, api.OK)
}

// P1: registers, sealers and books that no call made.
func TestUnmade(t *testing.T) {
	b, _ := made(t, small())
	for _, turn := range []func(*store.Base){
		func(b *store.Base) { b.T = &trust.Trust{} }, func(b *store.Base) { b.S = &seal.Sealer{} },
		func(b *store.Base) { b.T = trust.New(nvm.New(1)) },
	} {
		x := b
		turn(&x)
		alike(t, "unmade", x, 3)
	}
}
