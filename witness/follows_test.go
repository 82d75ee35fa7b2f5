package witness_test

import (
	"fmt"
	"sync/atomic"
	"testing"

	"garderobe/api"
	"garderobe/geom"
	"garderobe/play"
	"garderobe/script"
	"garderobe/witness"
)

// verdict is what became of a script's answers, held against those of a world in which nobody else writes.
type verdict struct {
	other    int  // the first act whose answer is neither as without, nor ErrTampered, nor behind one; -1: none is
	tampered bool // ErrTampered was said
	unseen   int  // answers behind others' writes that were as without
}

// judge runs a script with and without what others write, till ErrTampered is said.
func judge(t *testing.T, s play.Setup, l []script.Act) verdict {
	t.Helper()
	w, e := play.New(s)
	alone, _ := play.New(s)
	if e != api.OK {
		t.Fatal("New", e)
	}
	v, wrote := verdict{other: -1}, false
	for k, a := range l {
		got := w.Do(a)
		if a.Kind == script.Tamper {
			wrote = true
			continue
		}
		if got.E == api.ErrTampered {
			v.tampered = true
			return v
		}
		if !play.Same(got, alone.Do(a)) {
			v.other = k
			return v
		}
		if wrote {
			v.unseen++
		}
	}
	return v
}

// fresh fails if an answer is another one than it may be, and nothing is found that explains it.
func fresh(t *testing.T, what string, s play.Setup, l []script.Act) verdict {
	t.Helper()
	v := judge(t, s, l)
	if v.other < 0 {
		return v
	}
	p, found, e := witness.Find(s, l...)
	if e != api.OK || !found || !p.Shows() {
		t.Errorf("%s: act %d, %+v, answers otherwise, and nothing is found", what, v.other, l[v.other])
	}
	return v
}

// P29.4, P0.1: over scripts in which others write, with losses of power, each answer is the one without that, or
// ErrTampered, or behind one; or something is found.
func TestFreshOrShown(t *testing.T) {
	var told, unseen atomic.Int64
	t.Run("all", func(t *testing.T) {
		for seed := range uint64(150) {
			t.Run(fmt.Sprint(seed), func(t *testing.T) {
				t.Parallel()
				p := written(t, seed, seed%3 > 0, true)
				v := fresh(t, "a script", p.s, p.l)
				unseen.Add(int64(v.unseen))
				if v.tampered {
					told.Add(1)
				}
			})
		}
	})
	if told.Load() < 50 || unseen.Load() < 500 {
		t.Error("told", told.Load(), "times,", unseen.Load(), "answers behind others' writes were as without")
	}
}

// P29.4: a bit of each block is turned, with the heap open and closed, and turned back at last: it is told, unless it is a
// block that nobody reads.
func TestEachBlock(t *testing.T) {
	s := setup(4, 8)
	told := 0
	for block := range geom.Total(s.G) {
		for n, between := range [][]script.Act{nil, {just(script.Close)}, {{Kind: script.Crash}, just(script.On)}, {arms(9, 1, 0), just(script.Begin), {Kind: script.Alloc, N: 9}, just(script.Commit), just(script.Close), just(script.On)}} {
			w, _ := play.New(s)
			l := append(standing(), between...)
			w.Run(l...)
			at := 256*block + (41*block+7*n)%256
			was := w.Base().D.Image()[at]
			l = append(l, script.Act{Kind: script.Tamper, At: at, B: []byte{was ^ 4}})
			if w.Heap().State() == api.ErrClosed {
				l = append(l, opens(true))
			}
			l = append(l, just(script.Check), just(script.Begin), script.Act{Kind: script.Write, B: []byte{1}}, just(script.Commit), just(script.Close), opens(false), script.Act{Kind: script.Read, N: 20},
				script.Act{Kind: script.Tamper, At: at, B: []byte{was}}, just(script.Check))
			if fresh(t, fmt.Sprintf("way %d, block %d", n, block), s, l).tampered {
				told++
			}
		}
	}
	if told < 2*geom.Leaves(s.G) {
		t.Error("told", told, "times")
	}
}

// P29.4, P28.4: where nobody else writes, nothing says ErrTampered, and nothing is found.
func TestNobodyWrites(t *testing.T) {
	for seed := range uint64(30) {
		t.Run(fmt.Sprint(seed), func(t *testing.T) {
			t.Parallel()
			p := written(t, seed, seed%2 > 0, false)
			if v := judge(t, p.s, p.l); v.tampered || v.other >= 0 || v.unseen > 0 {
				t.Errorf("%+v", v)
			}
			_, found, e := witness.Find(p.s, p.l...)
			if found || e != api.OK {
				t.Error("found:", found, "error", e)
			}
		})
	}
}
