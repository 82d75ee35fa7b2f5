package mend_test

import (
	"bytes"
	"math"
	"math/rand/v2"
	"slices"
	"testing"

	"garderobe/api"
	"garderobe/geom"
	"garderobe/logf"
	"garderobe/mend"
	"garderobe/nvm"
	"garderobe/seal"
	"garderobe/store"
)

// logOf are the bytes of all blocks of the log, of a log of entries that are yet to be sealed; noise stands behind it.
func (o tools) logOf(g api.Geo, count uint64, l []logf.Entry) []byte {
	s, out := seal.New(o.cipher), logf.Log{Count: count}
	for _, x := range l {
		data, _ := s.Seal(count, x.K, x.Data)
		out.L = append(out.L, logf.Entry{K: x.K, Data: data})
	}
	blocks, e := logf.Encode(g, out)
	if e != api.OK {
		o.t.Helper()
		o.t.Fatal("no log", e)
	}
	b := bytes.Join(blocks, nil)
	return append(b, text(8, 256*(1+g.Tx)-len(b))...)
}

// torn is a base with a register of what is to be, the leaves as they were, and a log.
func torn(old, then truth, l []logf.Entry) store.Base {
	image := append(bytes.Join(old.blocks(), nil), old.logOf(old.g, then.count, l)...)
	return old.on(old.g, then.reg(), image)
}

// apart are lists of numbers that a Commit may have.
func apart(g api.Geo) [][]int {
	n := geom.Sealed(g)
	var all, ends []int
	for k := range min(g.Tx, n) {
		all, ends = append(all, k), append([]int{n - 1 - k}, ends...)
	}
	l := [][]int{{0}, {n - 1}, {0, n - 1}, all, ends}
	if n > 33 {
		l = append(l, []int{31, 32}, []int{0, 31, 32, 33}, []int{32})
	}
	if n > 65 {
		l = append(l, []int{31, 32, 63, 64}, []int{1, 64})
	}
	return l
}

// P16.1, P16.3: what is to be redone by a log; the acts of an Open are then as always.
func TestRedone(t *testing.T) {
	o := begin(t)
	for _, g := range plans() {
		for seed, numbers := range apart(g) {
			old := o.filled(g, 10)
			l := entries(uint64(seed+5), numbers...)
			then := old.with(11, l)
			for _, write := range []bool{false, true} {
				b, want := torn(old, then, l), torn(old, then, l)
				found(t, "a log", b, mend.Redone)
				x := opened(t, "a log", b, write, then)
				then.opens(write).do(want)
				alike(t, "Open", b, want)
				if !bytes.Equal(b.D.Image(), then.image()) {
					t.Errorf("%v, %v: something else lasts", g, numbers)
				}
				found(t, "redone", b, mend.Whole)
				committable(t, x, b, write)
			}
		}
	}
}

// P16.1: a log at the register's end is redone for reading alone.
func TestRedoneAtTheEnd(t *testing.T) {
	o := begin(t)
	old := o.filled(small(), math.MaxUint64-1)
	l := entries(1, 0, 2)
	then := old.with(math.MaxUint64, l)
	b := torn(old, then, l)
	found(t, "a log", b, mend.Redone)
	shut(t, "a log", b, true, api.ErrExhausted)
	opened(t, "a log", b, false, then)
	found(t, "redone", b, mend.Whole)
}

// P16.1: a log of another count, of other entries, of other bytes, or none.
func TestNoLog(t *testing.T) {
	o := begin(t)
	g := small()
	old := o.filled(g, 10)
	l := entries(1, 0, 2)
	then := old.with(11, l)
	for name, log := range map[string][]byte{
		"an older one":  o.logOf(g, 10, l),
		"a younger one": o.logOf(g, 12, l),
		"too few":       o.logOf(g, 11, l[:1]),
		"other ones":    o.logOf(g, 11, entries(1, 0, 1)),
		"other bytes":   o.logOf(g, 11, entries(2, 0, 2)),
		"too many":      o.logOf(g, 11, entries(1, 0, 1, 2)),
		"noughts":       make([]byte, 256*(1+g.Tx)),
		"noise":         text(1, 256*(1+g.Tx)),
	} {
		b := old.on(g, then.reg(), append(bytes.Join(old.blocks(), nil), log...))
		found(t, name, b, mend.Wrong)
		shut(t, name, b, true, api.ErrTampered)
	}
}

// P16.1: the log of a count that the register does not hold plays no part, if the blocks with it have the root.
func TestCountOfTheLog(t *testing.T) {
	o := begin(t)
	old := o.filled(small(), 10)
	l := entries(1, 0, 2)
	then := old.with(11, l)
	for _, count := range []uint64{0, 10, 12, 11 + 1<<32} {
		r := then.reg()
		r.Count = count
		b := old.on(old.g, r, append(bytes.Join(old.blocks(), nil), old.logOf(old.g, 11, l)...))
		found(t, "another count", b, mend.Wrong)
		shut(t, "another count", b, false, api.ErrTampered)
	}
}

// P16.1, P16.6: a byte that others wrote, where a log is to be redone: it plays no part in what the log puts in, and
// behind the log.
func TestTurnedAndRedone(t *testing.T) {
	o := begin(t)
	g := api.Geo{Pages: 30, Tx: 6}
	old := o.filled(g, 10)
	l := entries(1, 4, 32)
	then := old.with(11, l)
	healed := []int{geom.SealedAt(g, 4), geom.SealedAt(g, 32)}
	for block := range geom.Total(g) {
		for _, k := range []int{0, 31, 32, 39, 40, 255} {
			b := turned(torn(old, then, l), 256*block+k)
			want := mend.Wrong
			if slices.Contains(healed, block) || block >= geom.LogAt(g, 3) || told(g, block, k) {
				want = mend.Redone
			}
			found(t, "a byte turned", b, want)
			if want == mend.Redone {
				opened(t, "a byte turned", b, true, then)
			} else {
				shut(t, "a byte turned", b, true, api.ErrTampered)
			}
		}
	}
}

// told tells whether a byte is one of an epoch of the sealed blocks 4 and 32 of 33, or stands behind the last epoch.
func told(g api.Geo, block, k int) bool {
	return block == geom.EpochAt(g, 0) && k/8 == 4 || block == geom.EpochAt(g, 1)
}

// P16.4: the power goes at each act of a Commit, and at each act of the Open behind it, whichever words last: it is found
// as it was, or as it is to be, as the register was set; for good.
func TestCommitDown(t *testing.T) {
	o := begin(t)
	old := o.filled(small(), 10)
	for seed, numbers := range [][]int{{1}, {0, 2}, {0, 1, 2}} {
		l := entries(uint64(seed), numbers...)
		then := old.with(12, l)
		acts := 2*(1+len(l)) + 1 + 1 + 2*len(l) + 2 + 1 + 3
		for act := 1; act <= acts+1; act++ {
			for k, p := range picks() {
				b := old.there()
				x := opened(t, "ahead of the Commit", b, true, old)
				b.D.Arm(act, p...)
				if e := x.Commit(l...); (e == api.OK) != (act > acts) {
					t.Fatalf("act %d: Commit: error %d", act, e)
				}
				b.D.On()
				w := old
				if act > 2*(1+len(l))+2 {
					w = then
				}
				openDown(t, b, w, k)
			}
		}
	}
}

// openDown opens a base again and again, the power going at a later act each time, and at none at last.
func openDown(t *testing.T, b store.Base, w truth, k int) {
	t.Helper()
	all := picks()
	acts := 2*geom.Leaves(w.g) + 1 + 3
	for act := 1 + k%3; act <= acts; act += 4 {
		b.D.Arm(act, all[(k+act)%len(all)]...)
		if _, e := mend.Open(b, act%2 == 0); e != api.ErrDown {
			t.Errorf("Open, act %d: error %d", act, e)
		}
		b.D.On()
	}
	opened(t, "behind a loss of power", b, k%2 == 0, w)
	found(t, "opened again", b, mend.Whole)
	if !bytes.Equal(b.D.Image(), w.image()) {
		t.Error("something else lasts")
	}
}

// P16.4, P16.5: whatever comes, many times over: what is opened is what was committed last, and epochs are used once.
func TestWalk(t *testing.T) {
	o := begin(t)
	for seed := range uint64(30) {
		r := rand.New(rand.NewPCG(seed, 4))
		g := plans()[seed%2]
		w := &walker{o: o, t: t, r: r, b: o.base(g, api.Reg{})}
		for range 60 {
			w.step()
		}
	}
}

// walker is a base to which things are done by chance, and what is known of it.
type walker struct {
	o      tools
	t      *testing.T
	r      *rand.Rand
	b      store.Base
	x      *store.Store
	is     truth
	there  bool // was it formatted?
	last   uint64
	sealed int
}

// step does one thing, with the power going in some.
func (w *walker) step() {
	if w.r.IntN(3) == 0 {
		w.b.D.Arm(1+w.r.IntN(40), text(w.r.Uint64(), 1+w.r.IntN(9))...)
	}
	count := w.b.T.Read().Count
	switch n := w.r.IntN(8); {
	case n == 0 || !w.there:
		w.format(count)
	case n < 4 || w.x == nil:
		w.open(n%2 == 0)
	default:
		w.commit(count)
	}
	if w.b.D.Down() {
		w.x = nil
	}
	w.b.D.On()
	w.once()
}

func (w *walker) format(count uint64) {
	w.x = nil
	if e := mend.Format(w.b); e == api.OK {
		w.is, w.there = w.o.blank(w.b.G, count+2), true
	} else if w.there = false; e != api.ErrDown {
		w.t.Errorf("Format: error %d", e)
	}
}

func (w *walker) open(write bool) {
	x, e := mend.Open(w.b, write)
	if e != api.OK && e != api.ErrDown {
		w.t.Errorf("Open: error %d", e)
	}
	if w.x = x; e == api.OK {
		has(w.t, "a walk", x, w.is)
	}
}

func (w *walker) commit(count uint64) {
	var l []logf.Entry
	for k := range w.x.Len() {
		if w.r.IntN(w.x.Len()) < 2 && len(l) < w.b.G.Tx {
			l = append(l, entries(w.r.Uint64(), k)...)
		}
	}
	e := w.x.Commit(l...)
	if w.b.T.Read().Count != count {
		w.is = w.is.with(count+1, l)
	}
	if e == api.OK {
		has(w.t, "a walk", w.x, w.is)
	} else if e != api.ErrDown && e != api.ErrReadOnly {
		w.t.Errorf("Commit: error %d", e)
	}
}

// once fails if an epoch was used again: what is new is of one epoch that is above all that were used.
func (w *walker) once() {
	used := w.b.S.Used()
	for _, n := range used[w.sealed:] {
		if n.Epoch <= w.last || n.Epoch != used[len(used)-1].Epoch {
			w.t.Errorf("sealed with %d again, behind %d", n.Epoch, w.last)
		}
	}
	if len(used) > w.sealed {
		w.sealed, w.last = len(used), used[len(used)-1].Epoch
	}
	if _, twice := w.b.S.Twice(); twice {
		w.t.Error("twice")
	}
}

// P16.7: the acts of an Open that is OK hang on the geometry and on write alone.
func TestOpenAddresses(t *testing.T) {
	o := begin(t)
	for _, g := range plans() {
		for _, write := range []bool{false, true} {
			l := entries(3, 0, 2)
			old := o.filled(g, 10)
			var first []nvm.Act
			for k, b := range []store.Base{o.blank(g, 2).there(), old.there(), torn(old, old.with(11, l), l), o.filled(g, 1<<50).there()} {
				if _, e := mend.Open(b, write); e != api.OK {
					t.Error("Open", e)
				}
				if k > 0 && !slices.Equal(b.D.Acts(), first) {
					t.Errorf("%v: acts %v, not %v", g, b.D.Acts(), first)
				}
				first = b.D.Acts()
			}
		}
	}
}

// P16.1 to P16.3: a register beside another device, whose power is off.
func TestRegisterOff(t *testing.T) {
	o := begin(t)
	w := o.filled(small(), 10)
	far := w.there()
	far.D.Crash()
	b := w.there()
	b.T = far.T
	found(t, "a register that is off", b, mend.Whole)
	opened(t, "for reading", b, false, w)
	if x, e := mend.Open(b, true); e != api.ErrDown || x != nil {
		t.Error("Open", e)
	}
	acts := len(b.D.Acts())
	if e := mend.Format(b); e != api.ErrDown || len(b.D.Acts()) != acts || len(b.S.Used()) != 0 {
		t.Error("Format", e)
	}
}

// P16.6: a Look sums by the base's book, so that two unlike texts of one sum are shown.
func TestBook(t *testing.T) {
	w := begin(t).filled(small(), 10)
	b := w.there()
	mend.Look(b)
	n := b.B.Len()
	if n < geom.Leaves(w.g) {
		t.Errorf("%d texts", n)
	}
	mend.Look(b)
	if b.B.Len() != n {
		t.Errorf("%d texts, then %d", n, b.B.Len())
	}
	mend.Look(turned(b, 300))
	if b.B.Len() <= n {
		t.Error("what others wrote was not summed")
	}
}
