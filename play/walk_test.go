package play_test

import (
	"bytes"
	"fmt"
	"testing"

	"garderobe/alloc"
	"garderobe/api"
	"garderobe/geom"
	"garderobe/handle"
	"garderobe/logf"
	"garderobe/mend"
	"garderobe/play"
	"garderobe/script"
	"garderobe/store"
)

// spoil has others turn a bit of a page.
func spoil(t *testing.T, w *play.World, page int) {
	t.Helper()
	g := w.Base().G
	at := geom.Bytes(geom.SealedAt(g, geom.PageAt(g, page))) + 77
	x, e := w.Base().D.Load(at, 1)
	if e != api.OK {
		t.Fatal("Load", e)
	}
	good(t, w, tampers(at, []byte{x[0] ^ 16}))
}

// walks are acts that call Walk ahead of all else: of the great object, too, whose page others left alone, and of none.
func walks() []script.Act {
	yes := script.Act{Kind: script.Set, K: 2, Yes: true, Which: 1}
	return []script.Act{frees(1), reallocs(1, 290), writes(1, 0, 4), sets(1, 1), unsets(1), yes, reads(1, 0, 0), sizes(1), frees(9), reallocs(9, 0), writes(9, 9), sets(99, 9), unsets(99), reads(9, 9, 9), sizes(9)}
}

// P28.2: acts that have an object call Walk, whatever they answer then: behind others' writes into a page of slots,
// all that they answer is ErrTampered, from then on.
func TestWalkFirst(t *testing.T) {
	for _, a := range walks() {
		for k, w := range stands(t) {
			if k < 2 {
				continue // it is closed
			}
			spoil(t, w, 0)
			what := fmt.Sprintf("%+v, way %d", a, k)
			is(t, what, w.Do(a), fails(api.ErrTampered))
			for _, kind := range []int{script.Begin, script.Commit, script.Abort, script.Stat, script.Check, script.Root} {
				is(t, what+", then kind "+fmt.Sprint(kind), w.Do(just(kind)), fails(api.ErrTampered))
			}
			is(t, what+", then Alloc", w.Do(allocs(300)), fails(api.ErrTampered))
			for _, b := range walks() {
				is(t, what+fmt.Sprintf(", then %+v", b), w.Do(b), fails(api.ErrTampered))
			}
			is(t, what+", then Open", w.Do(opens(true)), fails(api.ErrOpen))
			is(t, what+", then Tamper", w.Do(tampers(0, nil)), play.Answer{})
			is(t, what+", then Close", w.Do(just(script.Close)), play.Answer{})
			is(t, what+", then Root", w.Do(roots(3)), fails(api.ErrClosed))
			is(t, what+", then Open", w.Do(opens(false)), fails(api.ErrTampered))
			is(t, what+", then Root", w.Do(roots(3)), fails(api.ErrClosed))
			spoil(t, w, 0) // the bit is as it was
			is(t, what+", put back, then Open", w.Do(opens(false)), play.Answer{})
			is(t, what+", then Read", w.Do(reads(0, 0, 5)), play.Answer{B: []byte("hello")})
		}
	}
}

// P28.2: other acts don't call Walk: they don't see what others wrote into a page of slots, but where they read it.
func TestNoWalk(t *testing.T) {
	for _, c := range []struct {
		a    script.Act
		want play.Answer
	}{
		{just(script.Format), fails(api.ErrOpen)}, {opens(true), fails(api.ErrOpen)}, {just(script.Begin), fails(api.ErrNested)},
		{just(script.Commit), play.Answer{}}, {just(script.Abort), play.Answer{}}, {just(script.Close), play.Answer{}},
		{allocs(300), play.Answer{V: 0x0300000000000003}}, {allocs(10), play.Answer{V: 0x0300000000000003}}, {allocs(0), fails(api.ErrSize)},
		{roots(3), play.Answer{V: 1}}, {roots(16), fails(api.ErrArg)}, {crashes(), play.Answer{}}, {arms(9), play.Answer{}},
		{tampers(1, []byte{1}), play.Answer{}}, {just(script.On), play.Answer{}},
		{just(script.Stat), fails(api.ErrTampered)}, {just(script.Check), fails(api.ErrTampered)}, {allocs(5), fails(api.ErrTampered)},
	} {
		w := stands(t)[4]
		spoil(t, w, 0)
		is(t, fmt.Sprintf("%+v", c.a), w.Do(c.a), c.want)
	}
	w := stands(t)[4]
	spoil(t, w, 5) // a free page: no call but Check reads it
	good(t, w, append(walks()[1:8], just(script.Stat), allocs(300), just(script.Commit))...)
	is(t, "Check", w.Do(just(script.Check)), fails(api.ErrTampered))
}

// P28.2: Which, behind others' writes into pages of slots and of a great object.
func TestWhichTampered(t *testing.T) {
	w := stands(t)[3]
	spoil(t, w, 2) // the great object's last page, which Walk does not read
	is(t, "Size of the first one", good(t, w, sizes(0)), play.Answer{V: 5})
	is(t, "Size of the last one", good(t, w, sizes(1)), play.Answer{V: 300})
	is(t, "Size of one beyond", w.Do(sizes(2)), fails(api.ErrHandle))
	is(t, "Read of the first one", good(t, w, reads(0, 0, 5)), play.Answer{B: []byte("hello")})
	is(t, "Read of the last one", w.Do(reads(1, 0, 1)), fails(api.ErrTampered))
	for which := range 4 {
		is(t, "Size behind it", w.Do(sizes(which)), fails(api.ErrTampered))
	}
}

// commits puts sealed blocks in by a store, beside the heap, which is closed.
func commits(t *testing.T, b store.Base, l ...logf.Entry) {
	t.Helper()
	s, e := mend.Open(b, true)
	if e != api.OK {
		t.Fatal("Open", e)
	}
	if e := s.Commit(l...); e != api.OK {
		t.Fatal("Commit", e)
	}
}

// P28.2: Check tells how many faults there are: of the objects as they were committed, or of the transaction's.
func TestCheck(t *testing.T) {
	w := stands(t)[1]
	g := w.Base().G
	trace := bytes.Repeat([]byte{3}, api.Block)
	head := handle.Roots{Next: 3}
	head.L[3], head.L[7], head.L[8], head.L[9] = 1, 9, 1<<56|9, 0
	roots, e := head.Bytes()
	if e != api.OK {
		t.Fatal("the head", e)
	}
	commits(t, w.Base(), logf.Entry{K: 0, Data: roots}, logf.Entry{K: geom.PageAt(g, 3), Data: trace}, logf.Entry{K: geom.PageAt(g, 5), Data: trace})
	good(t, w, opens(true))
	is(t, "Check", w.Do(just(script.Check)), play.Answer{V: 4}) // two roots, two traces
	good(t, w, just(script.Begin), allocs(256))
	is(t, "of the transaction, to which page 3 belongs", w.Do(just(script.Check)), play.Answer{V: 3})
	good(t, w, unsets(7), unsets(8))
	is(t, "of the transaction, without two roots", w.Do(just(script.Check)), play.Answer{V: 1})
	good(t, w, just(script.Abort))
	is(t, "behind an Abort", w.Do(just(script.Check)), play.Answer{V: 4})
	good(t, w, just(script.Begin), unsets(7), just(script.Commit))
	is(t, "behind a Commit", w.Do(just(script.Check)), play.Answer{V: 3})
	is(t, "Stat", w.Do(just(script.Stat)), stat(alloc.Stat{Free: 3, Slots: 1, Great: 2, Objects: 2, Bytes: 305}))
	good(t, w, just(script.Close))
	commits(t, w.Base(), logf.Entry{K: geom.PageAt(g, 0), Data: trace})
	good(t, w, opens(false))
	is(t, "with a page of slots that may not be", w.Do(just(script.Check)), play.Answer{V: 5}) // Form, Traces at 3 and 5, roots 3 and 8
	is(t, "Stat of it", w.Do(just(script.Stat)), fails(api.ErrForm))
	is(t, "Size in it", w.Do(sizes(0)), fails(api.ErrHandle))
	is(t, "Check without faults", stands(t)[2].Do(just(script.Check)), play.Answer{})
}

// P28.2: Open of a heap whose head may not be.
func TestOpenForm(t *testing.T) {
	w := stands(t)[1]
	commits(t, w.Base(), logf.Entry{K: 0, Data: bytes.Repeat([]byte{255}, api.Block)})
	is(t, "Open", w.Do(opens(true)), fails(api.ErrForm))
	is(t, "Stat", w.Do(just(script.Stat)), fails(api.ErrClosed))
	is(t, "Check", w.Do(just(script.Check)), fails(api.ErrClosed))
}
