package play_test

import (
	"bytes"
	"fmt"
	"slices"
	"testing"

	"garderobe/alloc"
	"garderobe/api"
	"garderobe/gauge"
	"garderobe/geom"
	"garderobe/nvm"
	"garderobe/play"
	"garderobe/script"
)

// blind is a script in which other bytes are written.
func blind(seed uint64, l []script.Act) []script.Act {
	out := slices.Clone(l)
	for k, a := range l {
		if a.Kind == script.Write {
			out[k].B = text(seed+uint64(k), len(a.B))
		}
	}
	return out
}

// freeable tells whether an act makes no object that takes more blocks than a transaction of the geometry has.
func freeable(g api.Geo, a script.Act) bool {
	return a.Kind != script.Alloc && a.Kind != script.Realloc || a.N <= 256*(g.Tx-1-2) // the head, and two maps
}

// emptied does what frees all objects, and commits that, and tells the acts.
func emptied(t *testing.T, w *play.World) (l []script.Act) {
	t.Helper()
	do := func(a script.Act) api.Errno {
		l = append(l, a)
		return w.Do(a).E
	}
	for _, a := range []script.Act{crashes(1), just(script.On), opens(true), just(script.Begin)} {
		if e := do(a); e != api.OK {
			t.Fatalf("%+v: error %d", a, e)
		}
	}
	for freed := 0; ; freed++ {
		e := do(frees(0))
		if e == api.OK {
			continue
		}
		if e != api.ErrHandle && (e != api.ErrTxFull || freed == 0) {
			t.Fatal("Free", e)
		}
		if c := do(just(script.Commit)); c != api.OK {
			t.Fatal("Commit", c)
		}
		if e == api.ErrHandle { // no object is left
			return l
		}
		if b := do(just(script.Begin)); b != api.OK {
			t.Fatal("Begin", b)
		}
		freed = -1
	}
}

// P0.5: scripts that differ only in what is written do the same acts of the memory, and answer the same but for what is
// read; when all objects were freed, and that was committed, all that lasts is the same.
func TestNoTrace(t *testing.T) {
	for seed := range uint64(80) {
		t.Run(fmt.Sprint(seed), func(t *testing.T) {
			t.Parallel()
			s := chanceSetup(seed)
			s.Count %= 1 << 40
			a, b := made(t, s, just(script.Format)), made(t, s, just(script.Format))
			d := newDice(seed, a)
			d.power = seed%2 > 0
			var l []script.Act
			var x []play.Answer
			for range 200 {
				if act := d.act(); act.Kind != script.Format && freeable(s.G, act) {
					l, x = append(l, act), append(x, a.Do(act))
				}
			}
			other := blind(seed, l)
			if !script.Like(l, other) {
				t.Fatal("the scripts are not like one another")
			}
			for k, y := range b.Run(other...) {
				y.B, x[k].B = make([]byte, len(y.B)), make([]byte, len(x[k].B))
				is(t, fmt.Sprintf("act %d, %+v", k, l[k]), y, x[k])
			}
			traced := func() {
				if n := len(a.Base().D.Acts()); n == nvm.MostActs || !slices.Equal(a.Base().D.Acts(), b.Base().D.Acts()) {
					t.Fatal("other acts of the memory, or too many:", n)
				}
			}
			traced()
			b.Run(emptied(t, a)...)
			traced()
			for _, picks := range some() {
				if !bytes.Equal(a.Base().D.Image(), b.Base().D.Image()) || a.Base().T.Read() != b.Base().T.Read() {
					t.Error("something lasts that tells what was written")
				}
				a.Do(crashes(picks...))
				b.Do(crashes(picks...))
			}
		})
	}
}

// P0.5: what was written shows as long as the object is there, and no longer: the log is part of that.
func TestTrace(t *testing.T) {
	run := func(b byte, more ...script.Act) []byte {
		l := append(begun(), allocs(100), writes(0, 0, bytes.Repeat([]byte{b}, 100)...), just(script.Commit))
		return made(t, setup(3, 6), append(l, more...)...).Base().D.Image()
	}
	if bytes.Equal(run(1), run(2)) {
		t.Error("what was written lasts nowhere")
	}
	free := []script.Act{just(script.Begin), frees(0), just(script.Commit)}
	if !bytes.Equal(run(1, free...), run(2, free...)) {
		t.Error("what was freed shows")
	}
	aborted := []script.Act{just(script.Begin), frees(0), just(script.Abort)}
	if bytes.Equal(run(1, aborted...), run(2, aborted...)) {
		t.Error("what was not freed does not show")
	}
}

// P0.6: behind any script, when all objects are freed, and that is committed, the heap stands as behind Format.
func TestEmptied(t *testing.T) {
	for seed := range uint64(40) {
		t.Run(fmt.Sprint(seed), func(t *testing.T) {
			t.Parallel()
			s := chanceSetup(seed)
			s.Count %= 1 << 40
			w, fresh := made(t, s, just(script.Format)), made(t, s, just(script.Format), opens(true))
			d := newDice(seed, w)
			for range 150 {
				if act := d.act(); act.Kind != script.Format && freeable(s.G, act) {
					w.Do(act)
				}
			}
			emptied(t, w)
			for _, a := range []script.Act{just(script.Stat), just(script.Check), sizes(0), roots(0), roots(1), roots(2), roots(3), roots(15)} {
				is(t, fmt.Sprintf("%+v", a), w.Do(a), fresh.Do(a))
			}
			is(t, "Stat", w.Do(just(script.Stat)), stat(alloc.Stat{Free: s.G.Pages}))
			x, _ := gauge.Of(w.Heap().Now())
			if y, _ := gauge.Of(fresh.Heap().Now()); x != y {
				t.Error("room:", x, "not", y)
			}
			for k := 1; k < geom.Sealed(s.G); k++ { // all but the head, which has the next serial
				if b, e := w.Heap().Now().Batch().Get(k); e != api.OK || !bytes.Equal(b, make([]byte, 256)) {
					t.Errorf("block %d: %x, error %d", k, b, e)
				}
			}
			good(t, w, just(script.Begin))
			good(t, fresh, just(script.Begin))
			for _, n := range []int{5, 200, 90, 600} {
				x, y := w.Do(allocs(n)), fresh.Do(allocs(n))
				if x.E != y.E || x.V>>48 != y.V>>48 {
					t.Errorf("Alloc of %d: %s, not in the place of %s", n, told(x), told(y))
				}
			}
		})
	}
}

// P0.6: that a transaction has too many blocks is told otherwise than that there is no place.
func TestTxFull(t *testing.T) {
	w := made(t, setup(9, 4), append(begun(), allocs(5), allocs(120))...) // the head, the map, two pages: it has all it may
	was := held(t, w)
	for _, n := range []int{9, 48, 96} {
		if r, e := gauge.Of(w.Heap().Now()); e != api.OK || !r.Fits(n) {
			t.Fatal("there is no place for", n, e)
		}
		is(t, fmt.Sprint("Alloc of ", n), w.Do(allocs(n)), fails(api.ErrTxFull))
		is(t, fmt.Sprint("Realloc to ", n), w.Do(reallocs(0, n)), fails(api.ErrTxFull))
	}
	if held(t, w) != was {
		t.Error("a call that was refused changed something")
	}
	is(t, "Alloc without a place", w.Do(allocs(4096)), fails(api.ErrNoSpace))
	is(t, "Alloc in a page that was put already", w.Do(allocs(100)), play.Answer{V: 0x0101000000000003})
	is(t, "Alloc of a great one, whose noughts are there", w.Do(allocs(256)), play.Answer{V: 0x0200000000000004})
	is(t, "Write into it", w.Do(writes(3, 0, 1)), fails(api.ErrTxFull))
	good(t, w, just(script.Commit), just(script.Check))
}
