package store_test

import (
	"bytes"
	"math"
	"slices"
	"testing"

	"garderobe/aes"
	"garderobe/api"
	"garderobe/book"
	"garderobe/gf"
	"garderobe/logf"
	"garderobe/nvm"
	"garderobe/seal"
	"garderobe/store"
	"garderobe/tree"
	"garderobe/trust"
)

// stands fails if a store does not tell what s says, block by block, by all calls but Read.
func stands(t *testing.T, x *store.Store, s state) {
	t.Helper()
	if x.Len() != s.sealed() || x.Root() != s.root() {
		t.Errorf("%d sealed blocks, root %x; not %d, %x", x.Len(), x.Root(), s.sealed(), s.root())
	}
	for k, epoch := range s.epochs {
		if x.Epoch(k) != epoch {
			t.Errorf("epoch of %d: %d, not %d", k, x.Epoch(k), epoch)
		}
	}
	for at, sum := range s.list() {
		if x.Leaf(at) != sum {
			t.Errorf("leaf of block %d: %x, not %x", at, x.Leaf(at), sum)
		}
	}
	for _, k := range append(beyond(s.sealed()), s.sealed()) {
		if x.Epoch(k) != 0 {
			t.Errorf("epoch of %d: %d", k, x.Epoch(k))
		}
	}
	for _, at := range append(beyond(s.leaves()), s.leaves(), s.total()) {
		if x.Leaf(at) != (api.Digest{}) {
			t.Errorf("leaf of block %d: %x", at, x.Leaf(at))
		}
	}
}

// reads fails if a store does not read what s says, block by block.
func reads(t *testing.T, x *store.Store, s state) {
	t.Helper()
	for k, want := range s.plain {
		if got, e := x.Read(k); e != api.OK || !bytes.Equal(got, want) {
			t.Errorf("Read of %d: error %d, %x", k, e, got)
		}
	}
}

// beyond are numbers that nothing of n has.
func beyond(n int) []int {
	return []int{math.MinInt, math.MinInt + 1, -1 << 32, -256, -2, -1, n, n + 1, n + 255, 1 << 16, 1 << 32, 1 << 56, 1<<62 + 1, math.MaxInt - 1, math.MaxInt}
}

// ended fails if not all calls answer e.
func ended(t *testing.T, x *store.Store, e api.Errno) {
	t.Helper()
	if got := x.State(); got != e {
		t.Errorf("State: %d, not %d", got, e)
	}
	for _, k := range append(beyond(x.Len()), 0, 1) {
		if b, got := x.Read(k); got != e || len(b) != 0 {
			t.Errorf("Read of %d: error %d, not %d; %x", k, got, e, b)
		}
	}
	for _, l := range [][]logf.Entry{nil, entries(1, 0), entries(1, 1, 0), entries(1, -1), make([]logf.Entry, 25)} {
		if got := x.Commit(l...); got != e {
			t.Errorf("Commit of %d entries: %d, not %d", len(l), got, e)
		}
	}
}

// idle fails if something was done to a base, or sealed, beside what s says.
func idle(t *testing.T, what string, b store.Base, s state) {
	t.Helper()
	if len(b.D.Acts()) != 0 || len(b.S.Used()) != 0 || b.T.Read() != s.reg() || !bytes.Equal(b.D.Image(), s.image()) || b.D.Pending() != 0 {
		t.Errorf("%s: acts %v, sealed %v, count %d", what, b.D.Acts(), b.S.Used(), b.T.Read().Count)
	}
}

// rows are acts, told by three numbers each.
func rows(l [][3]int) []nvm.Act {
	var out []nvm.Act
	for _, x := range l {
		out = append(out, nvm.Act{Kind: x[0], At: x[1], N: x[2]})
	}
	return out
}

// Example 1.
func TestExample(t *testing.T) {
	s := begun(plan{20, 4}, 10)
	x, b := s.made(t, true)
	if e := x.Commit(entries(1, 5)...); e != api.OK {
		t.Fatal(e)
	}
	log, sealed, epochs := 256*25, 256*7, 256
	want := rows([][3]int{{nvm.Store, log, 256}, {nvm.Flush, log, 256}, {nvm.Store, log + 256, 256}, {nvm.Flush, log + 256, 256},
		{nvm.Fence}, {nvm.Other}, {nvm.Store, sealed, 256}, {nvm.Flush, sealed, 256}, {nvm.Store, epochs, 256}, {nvm.Flush, epochs, 256},
		{nvm.Fence}, {nvm.Store, log, 512}, {nvm.Flush, log, 512}, {nvm.Fence}})
	if got := b.D.Acts(); !slices.Equal(got, want) || len(got) != 14 {
		t.Errorf("%v, not %v", got, want)
	}
}

// P15.1: what is missing is told ahead of what may not be.
func TestNewOfNil(t *testing.T) {
	s := begun(plan{20, 4}, 10)
	for name, lose := range map[string]func(*store.Base, **tree.Tree){
		"device":   func(b *store.Base, _ **tree.Tree) { b.D = nil },
		"register": func(b *store.Base, _ **tree.Tree) { b.T = nil },
		"sealer":   func(b *store.Base, _ **tree.Tree) { b.S = nil },
		"book":     func(b *store.Base, _ **tree.Tree) { b.B = nil },
		"tree":     func(_ *store.Base, x **tree.Tree) { *x = nil },
		"all":      func(b *store.Base, x **tree.Tree) { *b, *x = store.Base{}, nil },
	} {
		b := s.base(t)
		x := s.tree(t, b.B)
		lose(&b, &x)
		for _, write := range []bool{false, true} {
			if got, e := store.New(b, s.epochs, x, write); e != api.ErrNil || got != nil {
				t.Errorf("without %s: %v, error %d", name, got, e)
			}
			b.G = api.Geo{}
			if got, e := store.New(b, nil, x, write); e != api.ErrNil || got != nil {
				t.Errorf("without %s, and of no geometry: %v, error %d", name, got, e)
			}
		}
	}
}

// P15.1: a geometry that may not be, too few and too many of everything.
func TestNewRefused(t *testing.T) {
	for _, p := range plans() {
		s := begun(p, 10)
		good := s.base(t)
		x := s.tree(t, good.B)
		refused := func(what string, b store.Base, epochs []uint64, x *tree.Tree) {
			t.Helper()
			if got, e := store.New(b, epochs, x, true); e != api.ErrArg || got != nil {
				t.Errorf("%v with %s: %v, error %d", p, what, got, e)
			}
		}
		for _, g := range []api.Geo{{}, {Pages: -1, Tx: p.tx}, {Pages: 0, Tx: p.tx}, {Pages: 65, Tx: p.tx}, {Pages: p.pages, Tx: 3},
			{Pages: p.pages, Tx: 25}, {Pages: math.MaxInt, Tx: math.MaxInt}, {Pages: math.MinInt, Tx: math.MinInt}, {Pages: p.pages, Tx: p.tx - 1}, {Pages: p.pages, Tx: p.tx + 1}} {
			b := good
			b.G = g
			refused("another geometry", b, s.epochs, x)
		}
		for _, lines := range []int{0, 1, 4*s.total() - 4, 4*s.total() - 1, 4*s.total() + 1, 4*s.total() + 4, 1024} {
			b := good
			b.D = nvm.New(lines)
			refused("another device", b, s.epochs, x)
		}
		b := good
		b.D = &nvm.Device{}
		refused("an unmade device", b, s.epochs, x)
		refused("no epochs", good, nil, x)
		refused("too few epochs", good, s.epochs[1:], x)
		refused("too many epochs", good, append(slices.Clone(s.epochs), 1), x)
		few, _ := tree.New(good.B, s.list()[1:]...)
		refused("too few leaves", good, s.epochs, few)
		many, _ := tree.New(good.B, append(s.list(), api.Digest{})...)
		refused("too many leaves", good, s.epochs, many)
		refused("an unmade tree", good, s.epochs, &tree.Tree{})
		idle(t, "New", good, s)
	}
}

// P15.1: of a device that would have as many bytes, if a geometry that may not be had no blocks.
func TestNewOfNothing(t *testing.T) {
	b := base(t, api.Geo{}, 0, api.Reg{})
	x, _ := tree.New(b.B, api.Digest{})
	if got, e := store.New(b, nil, x, true); e != api.ErrArg || got != nil {
		t.Error(got, e)
	}
}

// P15.1, P15.2: what a store tells, and what it reads, whatever its blocks and epochs are; it does nothing to its base.
func TestStands(t *testing.T) {
	for _, p := range plans() {
		for _, write := range []bool{false, true} {
			s := begun(p, 1<<40+9)
			s.epochs[0], s.epochs[1] = 0, math.MaxUint64
			x, b := s.made(t, write)
			if e := x.State(); e != api.OK {
				t.Error("State", e)
			}
			stands(t, x, s)
			reads(t, x, s)
			idle(t, "New and Read", b, s)
		}
	}
}

// P1: calls of a nil store, and of one that no call made.
func TestNil(t *testing.T) {
	for _, x := range []*store.Store{nil, {}} {
		ended(t, x, api.ErrNil)
		if x.Len() != 0 || x.Root() != (api.Digest{}) {
			t.Error("Len", x.Len(), "Root", x.Root())
		}
		for _, k := range append(beyond(1), 0) {
			if x.Epoch(k) != 0 || x.Leaf(k) != (api.Digest{}) {
				t.Error("Epoch", x.Epoch(k), "Leaf", x.Leaf(k))
			}
		}
	}
}

// P15.2: there are no other sealed blocks; that ends nothing.
func TestReadBeyond(t *testing.T) {
	for _, p := range plans() {
		s := begun(p, 10)
		x, b := s.made(t, true)
		for _, k := range beyond(s.sealed()) {
			if got, e := x.Read(k); e != api.ErrRange || len(got) != 0 {
				t.Errorf("Read of %d: error %d, %x", k, e, got)
			}
		}
		reads(t, x, s)
		idle(t, "Read", b, s)
	}
}

// P15.2: a byte of a block that others wrote, any of them; all calls say so from then on.
func TestReadTampered(t *testing.T) {
	p := plan{20, 4}
	s := begun(p, 10)
	for k := range p.sealed() {
		for _, i := range []int{0, 1, 127, 128, 255} {
			x, b := s.made(t, true)
			at := 256*p.sealAt(k) + i
			b.D.Tamper(at, []byte{s.image()[at] ^ byte(1<<(k%8))})
			for o, want := range s.plain {
				if o == k {
					continue
				}
				if got, e := x.Read(o); e != api.OK || !bytes.Equal(got, want) {
					t.Errorf("Read of %d: error %d", o, e)
				}
			}
			if got, e := x.Read(k); e != api.ErrTampered || len(got) != 0 {
				t.Errorf("Read of %d with byte %d turned: error %d, %x", k, i, e, got)
			}
			b.D.Tamper(0, s.image())
			ended(t, x, api.ErrTampered)
			stands(t, x, s)
			b.D.Crash()
			ended(t, x, api.ErrTampered)
			b.D.On()
			ended(t, x, api.ErrTampered)
			idle(t, "a poisoned store", b, s)
		}
	}
}

// P15.2: a block that stands in another one's place, or as it was a Commit ago, is not what was written.
func TestReadMoved(t *testing.T) {
	s := begun(plan{20, 4}, 10)
	x, b := s.made(t, true)
	b.D.Tamper(256*s.sealAt(3), s.block(s.sealAt(4)))
	if _, e := x.Read(3); e != api.ErrTampered {
		t.Error("another one's", e)
	}
	x, b = s.made(t, true)
	x.Commit(entries(1, 3)...)
	b.D.Tamper(256*s.sealAt(3), s.block(s.sealAt(3)))
	if _, e := x.Read(3); e != api.ErrTampered {
		t.Error("an old one", e)
	}
}

// P15.2: what others write into blocks that are not read, and what they write back, plays no part.
func TestReadBeside(t *testing.T) {
	s := begun(plan{20, 4}, 10)
	x, b := s.made(t, false)
	b.D.Tamper(0, make([]byte, 512))
	b.D.Tamper(256*s.logAt(0), text(5, 256*5))
	b.D.Tamper(256*s.sealAt(7), text(6, 256))
	b.D.Tamper(256*s.sealAt(7), s.block(s.sealAt(7)))
	reads(t, x, s)
}

// P15.2: a Read while the power is off; the store is down then for good. What is refused ahead of it is no loss.
func TestReadDown(t *testing.T) {
	s := begun(plan{20, 4}, 10)
	x, b := s.made(t, true)
	b.D.Crash()
	if _, e := x.Read(-1); e != api.ErrRange {
		t.Error("Read of -1", e)
	}
	b.D.On()
	reads(t, x, s)
	b.D.Crash()
	if got, e := x.Read(0); e != api.ErrDown || len(got) != 0 {
		t.Error("Read", e, got)
	}
	ended(t, x, api.ErrDown)
	b.D.On()
	ended(t, x, api.ErrDown)
	stands(t, x, s)
	idle(t, "a store that is down", b, s)
}

// P15.2: what is sealed by another cipher is opened by the base's.
func TestReadOtherKey(t *testing.T) {
	s := begun(plan{1, 4}, 10)
	b := s.base(t)
	c, _ := aes.New(gf.NewBox(), text(7, 16))
	b.S = seal.New(c)
	x := over(t, s, b, true)
	want, _ := b.S.Open(s.epochs[2], 2, s.block(s.sealAt(2)))
	if got, e := x.Read(2); e != api.OK || !bytes.Equal(got, want) || bytes.Equal(got, s.plain[2]) {
		t.Error("Read", e, got)
	}
}

// P15.3: which acts a Commit does, in their order, what they store, what lasts then, and what the store has.
func TestCommit(t *testing.T) {
	for _, p := range plans() {
		for seed, numbers := range p.apart() {
			s := begun(p, 10)
			x, b := s.made(t, true)
			l := entries(uint64(seed), numbers...)
			if e := x.Commit(l...); e != api.OK {
				t.Fatal(p, numbers, e)
			}
			then := s.with(l)
			want, _ := then.acts(l)
			if got := b.D.Acts(); !slices.Equal(got, told(want)) {
				t.Errorf("%v, %v: acts %v, not %v", p, numbers, got, told(want))
			}
			if !bytes.Equal(b.D.Image(), then.image()) || b.D.Pending() != 0 || b.T.Read() != then.reg() {
				t.Errorf("%v, %v: something else lasts", p, numbers)
			}
			stands(t, x, then)
			reads(t, x, then)
			var used []seal.Nonce
			for _, k := range numbers {
				used = append(used, seal.Nonce{Epoch: 11, Block: k})
			}
			if got := b.S.Used(); !slices.Equal(got, used) {
				t.Errorf("%v, %v: sealed %v", p, numbers, got)
			}
		}
	}
}

// P15.3: many Commits, one behind the other.
func TestCommits(t *testing.T) {
	for _, p := range plans() {
		s := begun(p, 1<<33+7)
		x, b := s.made(t, true)
		for round, numbers := range append(p.apart(), p.apart()...) {
			l := entries(uint64(round), numbers...)
			if e := x.Commit(l...); e != api.OK {
				t.Fatal(e)
			}
			s = s.with(l)
			if b.T.Read() != s.reg() || !bytes.Equal(b.D.Image(), s.image()) || x.State() != api.OK {
				t.Fatalf("%v: something else lasts behind %v", p, numbers)
			}
		}
		stands(t, x, s)
		reads(t, x, s)
		if _, twice := b.S.Twice(); twice {
			t.Error("twice")
		}
	}
}

// P15.3, P15.5: the power goes at each act, all that is pending kept or lost; nothing of the acts from there on is done,
// and the store has what it is to have if the register was set.
func TestCommitDown(t *testing.T) {
	for _, p := range []plan{{1, 4}, {59, 9}} {
		for seed, numbers := range p.apart() {
			s := begun(p, 10)
			l := entries(uint64(seed), numbers...)
			then := s.with(l)
			all, set := then.acts(l)
			for act := 1; act <= len(all)+1; act++ {
				for pick := range 2 {
					down(t, s, then, l, all, set, act, pick)
				}
			}
		}
	}
}

// down does a Commit in which the power goes at an act.
func down(t *testing.T, s, then state, l []logf.Entry, all []change, set, act, pick int) {
	t.Helper()
	x, b := s.made(t, true)
	b.D.Arm(act, byte(pick))
	e, want := x.Commit(l...), api.ErrDown
	if act > len(all) {
		want = api.OK
	}
	if e != want || x.State() != want {
		t.Fatalf("act %d: error %d, State %d", act, e, x.State())
	}
	if act <= len(all) {
		ended(t, x, api.ErrDown)
		b.D.On()
		ended(t, x, api.ErrDown)
	}
	lasts, now := done(s.image(), all[:act-1])
	if pick == 1 {
		lasts = now
	}
	if !bytes.Equal(b.D.Image(), lasts) || !slices.Equal(b.D.Acts(), told(all[:act-1])) {
		t.Errorf("act %d, pick %d: acts %v, something else lasts", act, pick, b.D.Acts())
	}
	is := s
	if act > set {
		is = then
	}
	if b.T.Read() != is.reg() || x.Root() != is.root() {
		t.Errorf("act %d: the register holds count %d", act, b.T.Read().Count)
	}
	if act == 1 || act == set || act == set+1 || act >= len(all) {
		stands(t, x, is)
	}
	if len(b.S.Used()) != len(l) {
		t.Errorf("act %d: sealed %v", act, b.S.Used())
	}
}

// P15.3: a Commit while the power is off is sealed, and goes no further; one of nothing asks nobody.
func TestCommitOff(t *testing.T) {
	s := begun(plan{20, 4}, 10)
	x, b := s.made(t, true)
	b.D.Crash()
	if e := x.Commit(); e != api.OK || x.State() != api.OK {
		t.Error("of nothing", e)
	}
	if e := x.Commit(entries(1, 1, 0)...); e != api.ErrArg || x.State() != api.OK {
		t.Error("of what may not be", e)
	}
	idle(t, "refused Commits", b, s)
	if e := x.Commit(entries(1, 3)...); e != api.ErrDown {
		t.Error("of one", e)
	}
	b.D.On()
	ended(t, x, api.ErrDown)
	stands(t, x, s)
	if len(b.D.Acts()) != 0 || b.T.Read() != s.reg() {
		t.Error(b.D.Acts(), b.T.Read())
	}
}

// P15.3: a register beside another device, whose power is off.
func TestCommitRegisterOff(t *testing.T) {
	s := begun(plan{20, 4}, 10)
	b, far := s.base(t), nvm.New(1)
	b.T = trust.At(far, s.reg())
	x := over(t, s, b, true)
	far.Crash()
	l := entries(1, 3)
	if e := x.Commit(l...); e != api.ErrDown {
		t.Error(e)
	}
	ended(t, x, api.ErrDown)
	stands(t, x, s)
	all, set := s.with(l).acts(l)
	if !slices.Equal(b.D.Acts(), told(all[:set-1])) {
		t.Error(b.D.Acts())
	}
}

// refusal is a Commit that is refused.
type refusal struct {
	what string
	l    []logf.Entry
	e    api.Errno
}

// refusals are Commits that a store for writing refuses.
func refusals(p plan) []refusal {
	n := p.sealed()
	var many, sunk []int
	for k := range p.tx + 1 {
		many, sunk = append(many, k), append(sunk, -k)
	}
	short, long, none, last := entries(1, 0, 1), entries(1, 0, 1), entries(1, 0, 1), entries(1, 0, 1)
	short[0].Data, long[0].Data = short[0].Data[:255], append(long[0].Data, 0)
	none[0].Data, last[1].Data = nil, last[1].Data[1:]
	return []refusal{
		{"one too many", entries(1, many...), api.ErrTxFull},
		{"one too many, that may not be", entries(1, sunk...), api.ErrTxFull},
		{"far too many", make([]logf.Entry, 1000), api.ErrTxFull},
		{"numbers that sink", entries(1, 1, 0), api.ErrArg},
		{"numbers that sink at the end", entries(1, 0, 2, 1), api.ErrArg},
		{"a number twice", entries(1, 1, 1), api.ErrArg},
		{"a number below 0", entries(1, -1, 0), api.ErrArg},
		{"the least number", entries(1, math.MinInt), api.ErrArg},
		{"a number beyond the last", entries(1, 0, n), api.ErrArg},
		{"a number that is cut", entries(1, 1<<16), api.ErrArg},
		{"the greatest number", entries(1, math.MaxInt), api.ErrArg},
		{"short bytes", short, api.ErrArg}, {"long bytes", long, api.ErrArg}, {"no bytes", none, api.ErrArg}, {"short bytes at the end", last, api.ErrArg},
	}
}

// P15.3: what is refused changes nothing, and the store goes on; as many as Tx are not too many.
func TestCommitRefused(t *testing.T) {
	for _, p := range plans() {
		s := begun(p, 10)
		x, b := s.made(t, true)
		for _, r := range refusals(p) {
			if e := x.Commit(r.l...); e != r.e {
				t.Errorf("%v, %s: error %d, not %d", p, r.what, e, r.e)
			}
		}
		if e := x.Commit(); e != api.OK {
			t.Error("of nothing", e)
		}
		if e := x.Commit([]logf.Entry{}...); e != api.OK {
			t.Error("of no entries", e)
		}
		stands(t, x, s)
		idle(t, "refused Commits", b, s)
		if x.State() != api.OK {
			t.Error("State", x.State())
		}
	}
}

// P15.3: a store for reading, and ahead of that what State says; behind it the register's end.
func TestCommitReadOnly(t *testing.T) {
	p := plan{20, 4}
	for _, count := range []uint64{10, math.MaxUint64} {
		s := begun(p, count)
		x, b := s.made(t, false)
		for _, r := range append(refusals(p), refusal{"nothing", nil, 0}, refusal{"one", entries(1, 0), 0}) {
			if e := x.Commit(r.l...); e != api.ErrReadOnly {
				t.Errorf("%s: error %d", r.what, e)
			}
		}
		reads(t, x, s)
		idle(t, "a store for reading", b, s)
	}
}

// P15.3: a register at its end; with one count to go there is one Commit more.
func TestCommitExhausted(t *testing.T) {
	p := plan{20, 4}
	s := begun(p, math.MaxUint64-1)
	x, b := s.made(t, true)
	l := entries(1, 2)
	if e := x.Commit(l...); e != api.OK {
		t.Fatal(e)
	}
	s = s.with(l)
	for _, r := range append(refusals(p), refusal{"nothing", nil, 0}, refusal{"one", entries(1, 0), 0}) {
		if e := x.Commit(r.l...); e != api.ErrExhausted {
			t.Errorf("%s: error %d", r.what, e)
		}
	}
	stands(t, x, s)
	reads(t, x, s)
	if b.T.Read() != s.reg() || len(b.D.Acts()) != 14 || len(b.S.Used()) != 1 {
		t.Error(b.T.Read(), b.D.Acts(), b.S.Used())
	}
}

// P15.3: the count is one more than what the register holds then, whoever set it.
func TestCommitCount(t *testing.T) {
	s := begun(plan{20, 4}, 10)
	x, b := s.made(t, true)
	b.T.Set(api.Reg{Count: 70, Root: s.root()})
	l := entries(1, 4)
	if e := x.Commit(l...); e != api.OK {
		t.Fatal(e)
	}
	s.count = 70
	s = s.with(l)
	stands(t, x, s)
	if b.T.Read() != s.reg() {
		t.Error(b.T.Read())
	}
}

// P15.7: the acts hang on the numbers alone.
func TestCommitAddresses(t *testing.T) {
	for _, p := range plans() {
		for _, numbers := range p.apart() {
			var first []nvm.Act
			for seed := range uint64(3) {
				s := begun(p, 10+seed<<20)
				if seed == 2 {
					s.plain[0] = make([]byte, 256)
				}
				x, b := s.made(t, true)
				x.Commit(entries(seed, numbers...)...)
				if got := b.D.Acts(); seed > 0 && !slices.Equal(got, first) {
					t.Errorf("%v, %v: %v, not %v", p, numbers, got, first)
				}
				first = b.D.Acts()
			}
		}
	}
}

// Rules 4 and 5: what is handed in is neither changed nor kept.
func TestHandedIn(t *testing.T) {
	s := begun(plan{20, 4}, 10)
	b := s.base(t)
	epochs, leaves := slices.Clone(s.epochs), s.tree(t, b.B)
	x, _ := store.New(b, epochs, leaves, true)
	for k := range epochs {
		epochs[k] = 77
	}
	leaves.Set(tree.Leaf{K: 3, Sum: api.Digest{1}})
	stands(t, x, s)
	l := entries(1, 3, 9)
	then := s.with(l)
	if e := x.Commit(l...); e != api.OK {
		t.Fatal(e)
	}
	for k, want := range entries(1, 3, 9) {
		if l[k].K != want.K || !bytes.Equal(l[k].Data, want.Data) {
			t.Errorf("entry %d was changed", k)
		}
		l[k].K = 0
		clear(l[k].Data)
	}
	for k, v := range epochs {
		if v != 77 {
			t.Errorf("epoch %d was changed to %d", k, v)
		}
	}
	if leaves.At(3) != (api.Digest{1}) || leaves.At(12) != s.leaf(12) {
		t.Error("the tree was changed")
	}
	stands(t, x, then)
	reads(t, x, then)
}

// Rule 4: what is read is a copy.
func TestReadCopies(t *testing.T) {
	s := begun(plan{20, 4}, 10)
	x, b := s.made(t, true)
	for range 2 {
		got, _ := x.Read(5)
		clear(got)
		_ = append(got[:0], text(1, 256)...)
	}
	reads(t, x, s)
	idle(t, "Read", b, s)
}

// P15.2: a sealer that no call made opens nothing, and seals nothing; nothing is done then.
func TestUnmadeSealer(t *testing.T) {
	s := begun(plan{1, 4}, 10)
	b := s.base(t)
	b.S = &seal.Sealer{}
	x := over(t, s, b, true)
	if got, e := x.Read(0); e != api.ErrNil || len(got) != 0 {
		t.Error("Read", e, got)
	}
	if e := x.Commit(entries(1, 0)...); e != api.ErrNil || x.State() != api.OK {
		t.Error("Commit", e, x.State())
	}
	stands(t, x, s)
	idle(t, "an unmade sealer", b, s)
}

// A book that no call made sums to noughts, which are no leaves of the tree.
func TestUnmadeBook(t *testing.T) {
	s := begun(plan{1, 4}, 10)
	b := s.base(t)
	x := s.tree(t, b.B)
	b.B = &book.Book{}
	y, e := store.New(b, s.epochs, x, true)
	if e != api.OK {
		t.Fatal(e)
	}
	if _, e := y.Read(0); e != api.ErrTampered {
		t.Error("Read", e)
	}
}

// A register that no call made can't be set: that ends a Commit as any of its errors does.
func TestUnmadeRegister(t *testing.T) {
	s := begun(plan{1, 4}, 10)
	b := s.base(t)
	b.T = &trust.Trust{}
	x := over(t, s, b, true)
	if e := x.Commit(entries(1, 0)...); e != api.ErrDown {
		t.Error("Commit", e)
	}
	ended(t, x, api.ErrDown)
	stands(t, x, s)
}
