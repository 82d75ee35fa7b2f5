package play_test

import (
	"fmt"
	"sync/atomic"
	"testing"

	"garderobe/api"
	"garderobe/geom"
	"garderobe/play"
	"garderobe/script"
)

// pair is a world, and one in which all the same is done, but what others write, and what was answered by ErrTampered.
type pair struct {
	w, alone *play.World
	armed    bool // a Format that is cut off leaves nothing
	poisoned bool // the heap is open, and says ErrTampered
	told     int  // how often it was told
	unseen   int  // answers behind others' writes that are as they would be without
	wrote    bool
}

// call tells whether an act is a call of the heap that a poisoned one refuses.
func call(kind int) bool {
	switch kind {
	case script.Format, script.Open, script.Close, script.Crash, script.Arm, script.Tamper, script.On:
		return false
	}
	return true
}

// do does an act, and fails unless it answers what it would without others' writes, or ErrTampered, and then so on.
func (p *pair) do(t *testing.T, what string, a script.Act) {
	t.Helper()
	if a.Kind == script.Format && p.armed {
		return
	}
	got := p.w.Do(a)
	switch a.Kind {
	case script.Tamper:
		p.wrote = true
		return
	case script.Arm:
		p.armed = a.N > 0
	case script.On, script.Crash:
		p.armed = false
	}
	if p.poisoned && call(a.Kind) {
		is(t, what+", poisoned", got, fails(api.ErrTampered))
		return
	}
	if got.E == api.ErrTampered {
		is(t, what, got, fails(api.ErrTampered))
		if !p.wrote {
			t.Errorf("%s: ErrTampered for nothing", what)
		}
		p.told++
		p.poisoned = a.Kind != script.Open
		return
	}
	if a.Kind == script.Close || a.Kind == script.Crash {
		p.poisoned = false
	}
	is(t, what, got, p.alone.Do(a))
	if p.wrote {
		p.unseen++
	}
}

// P28.3, P0.1, P0.2, P0.4: scripts of all kinds of acts, with losses of power and others' writes: each answer is that
// which there would have been without the writing, or ErrTampered, and then so till the heap is opened again.
func TestTold(t *testing.T) {
	var told, unseen atomic.Int64
	t.Run("all", func(t *testing.T) {
		for seed := range uint64(200) {
			t.Run(fmt.Sprint(seed), func(t *testing.T) {
				t.Parallel()
				s := chanceSetup(seed)
				s.Count %= 1 << 40 // there is room for a Format, and more
				p := &pair{w: made(t, s, just(script.Format)), alone: made(t, s, just(script.Format))}
				d := newDice(seed, p.w)
				d.power, d.others = seed%3 > 0, true
				for k := range 250 {
					a := d.act()
					p.do(t, fmt.Sprintf("act %d, %+v", k, a), a)
				}
				told.Add(int64(p.told))
				unseen.Add(int64(p.unseen))
				for _, w := range []*play.World{p.w, p.alone} {
					if x, twice := w.Base().S.Twice(); twice {
						t.Error("two blocks were sealed with one nonce:", x)
					}
					if _, _, clash := w.Base().B.Clash(); clash {
						t.Error("two texts have one sum")
					}
				}
			})
		}
	})
	if told.Load() < 300 || unseen.Load() < 3000 {
		t.Error("told", told.Load(), "times,", unseen.Load(), "answers behind others' writes were as without")
	}
}

// P28.3: a bit of each block is turned while the heap is closed: Open tells it, but of the log, which nobody needs.
func TestEachBlock(t *testing.T) {
	ready := append(ahead(), just(script.Close))
	want := held(t, made(t, setup(4, 8), ahead()...))
	g := setup(4, 8).G
	for block := range geom.Total(g) {
		for _, at := range []int{0, 7, 8, 100, 255} {
			w := made(t, setup(4, 8), ready...)
			x, _ := w.Base().D.Load(256*block+at, 1)
			good(t, w, tampers(256*block+at, []byte{x[0] ^ 32}))
			what := fmt.Sprintf("byte %d of block %d", at, block)
			if block >= geom.Leaves(g) {
				good(t, w, opens(true))
				if held(t, w) != want {
					t.Error(what, "changed the heap")
				}
				continue
			}
			is(t, what, w.Do(opens(true)), fails(api.ErrTampered))
			is(t, what+", again", w.Do(opens(false)), fails(api.ErrTampered))
			good(t, w, tampers(256*block+at, x), opens(true))
			if held(t, w) != want {
				t.Error(what, "put back, is not as it was")
			}
		}
	}
}

// P28.3: a bit of each block is turned while the heap is open: the first call that reads it says so, and all behind it.
func TestEachBlockOpen(t *testing.T) {
	g := setup(4, 8).G
	acts := []script.Act{just(script.Begin), roots(3), just(script.Stat), sizes(1), reads(0, 0, 5), reads(1, 0, 300), allocs(40), allocs(5), writes(1, 3, 9), frees(0), just(script.Check), just(script.Commit), just(script.Stat)}
	quiet := 0
	for block := range geom.Total(g) {
		p := &pair{w: made(t, setup(4, 8), ahead()...), alone: made(t, setup(4, 8), ahead()...)}
		x, _ := p.w.Base().D.Load(256*block+9, 1)
		p.do(t, "Tamper", tampers(256*block+9, []byte{x[0] ^ 1}))
		for k, a := range acts {
			p.do(t, fmt.Sprintf("block %d, act %d, %+v", block, k, a), a)
		}
		sealed := geom.Where(g, block).Kind == 3
		if sealed == (p.told == 0) {
			t.Errorf("block %d: told %d times", block, p.told)
		}
		if p.told == 0 {
			quiet++
		}
	}
	if quiet != geom.Total(g)-geom.Sealed(g) { // those that no call but Open reads
		t.Error("no call noticed", quiet, "blocks")
	}
}

// P28.3: all that was there ahead is put back: a Commit, an Open, or a Format ago.
func TestPutBack(t *testing.T) {
	for n, between := range [][]script.Act{
		{opens(true), just(script.Begin), writes(0, 0, 'H'), just(script.Commit), just(script.Close)},
		{opens(true), just(script.Begin), frees(1), just(script.Commit), just(script.Begin), allocs(300), just(script.Commit), just(script.Close)},
		{just(script.Format)},
	} {
		w := made(t, setup(4, 8), append(ahead(), just(script.Close))...)
		old := w.Base().D.Image()
		good(t, w, between...)
		back := func(b []byte) {
			for at := 0; at < len(b); at += 1024 {
				good(t, w, tampers(at, b[at:min(at+1024, len(b))]))
			}
		}
		now := w.Base().D.Image()
		back(old)
		is(t, fmt.Sprint("put back, ", n), w.Do(opens(true)), fails(api.ErrTampered))
		back(now)
		good(t, w, opens(true), just(script.Check))
	}
	w := made(t, setup(4, 8), append(ahead(), just(script.Close))...) // an Open for writing alone changes nothing but the count
	old := w.Base().D.Image()
	good(t, w, opens(true), just(script.Close))
	good(t, w, tampers(0, old[:1024]), tampers(1024, old[1024:2048]), opens(true), just(script.Check))
}

// P28.3, P28.5: others write into each block behind a Commit that was cut off: what is opened is what it must be, or not
// at all.
func TestCutTampered(t *testing.T) {
	before, after, acts := both(t)
	g := setup(4, 8).G
	refused, opened := 0, 0
	for n := 1; n <= acts; n++ {
		for block := range geom.Total(g) {
			w, want := cut(t, n, some()[(n+block)%5], before, after)
			at := 256*block + (37*n+11*block)%256
			x, _ := w.Base().D.Image(), 0
			good(t, w, just(script.Close), tampers(at, []byte{x[at] ^ 8}), just(script.On))
			what := fmt.Sprintf("cut off at %d, and block %d", n, block)
			switch e := w.Do(opens(true)).E; e {
			case api.OK:
				opened++
				if held(t, w) != want {
					t.Errorf("%s: it has\n%s\nnot\n%s", what, held(t, w), want)
				}
			case api.ErrTampered:
				refused++
				good(t, w, tampers(at, x[at:at+1]))
				whole(t, what+", put back", w, want)
			default:
				t.Error(what, "error", e)
			}
		}
	}
	if refused < 100 || opened < 100 {
		t.Error("refused", refused, "opened", opened)
	}
}
