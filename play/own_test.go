package play_test

import (
	"bytes"
	"fmt"
	"slices"
	"testing"

	"garderobe/play"
	"garderobe/script"
)

// Rule 5: a key that is written into behind New plays no part.
func TestKeyOwn(t *testing.T) {
	s := setup(3, 4)
	w := made(t, s)
	if !bytes.Equal(s.Key, text(1, 32)) {
		t.Error("New changed the key")
	}
	clear(s.Key)
	o := newOther(t, setup(3, 4))
	for _, a := range append(begun(), allocs(9), just(script.Commit), just(script.Close), opens(true)) {
		is(t, fmt.Sprintf("%+v", a), w.Do(a), o.do(a))
	}
	alike(t, "a key that was cleared", w.Base(), o.base, w.Heap(), o.heap)
}

// Rules 4 and 5: acts are not changed, and what they have is not kept.
func TestActsOwn(t *testing.T) {
	l := append(begun(), allocs(20), allocs(600), writes(0, 2, 1, 2, 3), writes(1, 250, text(4, 20)...), sets(1, 0), just(script.Commit), tampers(w0().Base().D.Len()-9, []byte{4, 5}), just(script.Begin), writes(0, 0, 9, 9), arms(9, 1, 0, 1), just(script.Commit), crashes(1, 1))
	deep := func() []script.Act {
		out := slices.Clone(l)
		for k := range out {
			out[k].B = bytes.Clone(out[k].B)
		}
		return out
	}
	a, b := made(t, setup(6, 8)), made(t, setup(6, 8))
	for _, x := range l {
		b.Do(x)
	}
	for _, x := range deep() { // each act's bytes are overwritten when it was done
		was := bytes.Clone(x.B)
		a.Do(x)
		if !bytes.Equal(x.B, was) {
			t.Errorf("%+v: its bytes were changed", x)
		}
		for k := range x.B {
			x.B[k] ^= 255
		}
	}
	alike(t, "one by one", a.Base(), b.Base(), a.Heap(), b.Heap())
	c, own := made(t, setup(6, 8)), deep()
	first := c.Run(own[:9]...)
	if !script.Same(own, l) {
		t.Error("Run changed the acts")
	}
	for k := range own[:9] {
		clear(own[k].B)
		own[k] = script.Act{Kind: 77}
	}
	c.Run(own[9:]...)
	alike(t, "in one go", a.Base(), c.Base(), a.Heap(), c.Heap())
	if len(first) != 9 {
		t.Error("Run", len(first))
	}
}

// w0 is a world of which only its measures are asked.
func w0() *play.World {
	w, _ := play.New(setup(6, 8))
	return w
}

// Rule 4: answers share memory with nothing.
func TestAnswersOwn(t *testing.T) {
	w := made(t, setup(6, 10), append(begun(), allocs(20), allocs(600), writes(0, 0, text(5, 20)...), writes(1, 0, text(6, 600)...))...)
	for _, commit := range []bool{false, true} {
		if commit {
			good(t, w, just(script.Commit))
		}
		for which, n := range []int{20, 600} {
			out := w.Run(reads(which, 0, n), reads(which, 0, n), reads(which, 3, 7))
			for k, x := range out {
				own := x.B[:cap(x.B)]
				for i := range own {
					own[i] ^= 255
				}
				_ = append(x.B, 1, 2, 3)
				out[k] = play.Answer{}
			}
			if b := w.Do(reads(which, 0, n)).B; !bytes.Equal(b, text(uint64(5+which), n)) {
				t.Errorf("object %d is seen through an answer: %x", which, b)
			}
		}
	}
	out := w.Run(reads(0, 0, 5), reads(0, 0, 5))
	out[0].B[0]++
	if !bytes.Equal(out[1].B, text(5, 20)[:5]) {
		t.Error("two answers of one Run share memory")
	}
	a, b := made(t, setup(2, 4)), w.Base()
	b.G.Pages, b.D, b.T = 99, nil, nil
	if w.Base().G.Pages != 6 || w.Base().D == nil || a.Base().D == nil {
		t.Error("a base that was answered is the world's")
	}
}

// Rule 6: two worlds in which the same is done answer the same.
func TestAlike(t *testing.T) {
	l := append(begun(), allocs(20), allocs(600), writes(0, 0, 1, 2), just(script.Commit), just(script.Begin), frees(1), arms(20, 1, 0), just(script.Commit), crashes(1), just(script.On), opens(true), just(script.Stat), just(script.Check))
	a, b := made(t, setup(6, 10)), made(t, setup(6, 10))
	x, y := a.Run(l...), b.Run(l...)
	if !slices.EqualFunc(x, y, play.Same) {
		t.Error("they answer otherwise")
	}
	alike(t, "two worlds", a.Base(), b.Base(), a.Heap(), b.Heap())
}
