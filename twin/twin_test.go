package twin_test

import (
	"bytes"
	"fmt"
	"math"
	"slices"
	"testing"

	"garderobe/api"
	"garderobe/geom"
	"garderobe/nvm"
	"garderobe/play"
	"garderobe/script"
	"garderobe/twin"
)

// by is what a script shows, by the words.
func by(t *testing.T, s play.Setup, l []script.Act, picks ...byte) twin.View {
	t.Helper()
	w, e := play.New(s)
	if e != api.OK {
		t.Fatal("New", e)
	}
	w.Run(l...)
	b := w.Base()
	if !b.D.Down() {
		b.D.Crash(picks...)
	}
	return twin.View{Acts: b.D.Acts(), Image: b.D.Image(), Reg: b.T.Read()}
}

// P30.1: layer 28's error of New, and nothing beside it.
func TestSetups(t *testing.T) {
	good := setup(5, 6)
	for _, s := range []play.Setup{
		{}, {G: good.G}, {Key: good.Key}, {G: good.G, Key: good.Key[:15]}, {G: good.G, Key: good.Key[:17]}, {G: good.G, Key: text(1, 33)}, {G: good.G, Key: text(1, 16)},
		{G: api.Geo{Pages: 0, Tx: 6}, Key: good.Key, Count: 9}, {G: good.G, Count: 1}, {G: api.Geo{Pages: 65, Tx: 6}, Key: good.Key}, {G: api.Geo{Pages: 64, Tx: 24}, Key: good.Key}, {G: api.Geo{Pages: 1, Tx: 4}, Key: good.Key},
		{G: api.Geo{Pages: 5, Tx: 3}, Key: good.Key}, {G: api.Geo{Pages: 5, Tx: 25}, Key: good.Key}, {G: api.Geo{Pages: math.MaxInt, Tx: math.MinInt}, Key: good.Key},
		{G: good.G, Key: good.Key, Count: api.MaxCount}, {G: good.G, Key: good.Key, Count: api.MaxCount - 2}, good,
	} {
		_, want := play.New(s)
		for n, l := range [][]script.Act{nil, {}, begun(allocs(5), just(script.Commit)), {just(-1), just(script.Format)}} {
			v, e := twin.Look(s, l, 1, 0)
			if e != want {
				t.Errorf("%+v, script %d: error %d, not %d", s, n, e, want)
			}
			if want != api.OK && (v.Acts != nil || v.Image != nil || v.Reg != (api.Reg{})) {
				t.Errorf("%+v, script %d: beside an error there is more: %s", s, n, told(v))
			}
			if want == api.OK && told(v) != told(by(t, s, l, 1, 0)) {
				t.Errorf("%+v, script %d: %s", s, n, told(v))
			}
		}
	}
	if _, e := twin.Look(play.Setup{}, nil); e != api.ErrArg {
		t.Error("no setup: error", e)
	}
}

// P30.1: of no acts there are noughts, and what the register holds at first.
func TestNoActs(t *testing.T) {
	for _, count := range []uint64{0, 1, 7, api.MaxCount} {
		s := setup(5, 6)
		s.Count = count
		for _, picks := range some() {
			v := look(t, s, nil, picks...)
			if len(v.Acts) != 0 || !bytes.Equal(v.Image, make([]byte, 256*geom.Total(s.G))) || v.Reg != (api.Reg{Count: count}) {
				t.Errorf("count %d: %s", count, told(v))
			}
		}
	}
}

// P30.1: a Format and an Open, act by act: what they do of the memory is told in order, and the register's count is 3.
func TestFormat(t *testing.T) {
	v := look(t, setup(1, 4), []script.Act{just(script.Format), opens(true)})
	put := func(n int) (l []nvm.Act) {
		for k := range n {
			l = append(l, nvm.Act{Kind: nvm.Store, At: 256 * k, N: 256}, nvm.Act{Kind: nvm.Flush, At: 256 * k, N: 256})
		}
		return append(l, nvm.Act{Kind: nvm.Fence}, nvm.Act{Kind: nvm.Store, At: 256 * n, N: 256 * 5}, nvm.Act{Kind: nvm.Flush, At: 256 * n, N: 256 * 5}, nvm.Act{Kind: nvm.Fence}, nvm.Act{Kind: nvm.Other})
	}
	want := append([]nvm.Act{{Kind: nvm.Other}}, slices.Concat(put(5), put(5))...) // the super, an epoch block, three sealed blocks
	if !slices.Equal(v.Acts, want) || v.Reg.Count != 3 || v.Reg.Root == (api.Digest{}) || len(v.Image) != 256*10 {
		t.Errorf("%v, %v", v.Acts, v.Reg)
	}
	if !bytes.Equal(v.Image[256*5:], make([]byte, 256*5)) || bytes.Equal(v.Image[256*2:256*3], make([]byte, 256)) {
		t.Error("the log has something, or a sealed block has nothing")
	}
}

// P30.1: over scripts with losses of power and what others write, with the power on and off at their ends: the device's
// acts and bytes, and what the register holds, behind a loss of power with these picks.
func TestLook(t *testing.T) {
	for seed := range uint64(20) {
		t.Run(fmt.Sprint(seed), func(t *testing.T) {
			t.Parallel()
			p := newPens(t, seed)
			for range 6 {
				p.round()
			}
			for _, a := range []script.Act{tampers(p.IntN(p.w.Base().D.Len()-3), 1, 2, 3), just(script.Check), just(script.Close), opens(true)}[:p.IntN(5)] {
				p.do(a)
			}
			off := append(slices.Clone(p.a), just(script.Close), just(script.On), arms(1+p.IntN(5), 1, 0), just(script.Format))
			for n, picks := range some() {
				for _, l := range [][]script.Act{p.a, p.a[:len(p.a)/2], off, append(slices.Clone(p.a), crashes(picks...)), append(off, just(script.On))} {
					if v := look(t, p.s, l, picks...); told(v) != told(by(t, p.s, l, picks...)) {
						t.Errorf("%d acts, picks %d: %s", len(l), n, told(v))
					}
				}
			}
		})
	}
}

// P30.1: acts that may not be are refused by the world, and end nothing; no acts of the memory are told of them.
func TestActsThatMayNotBe(t *testing.T) {
	l := begun(allocs(5), writes(0, 0, 1), just(script.Commit))
	want := told(look(t, setup(5, 6), l))
	for _, a := range []script.Act{just(-1), just(20), just(math.MinInt), {Kind: script.Close, N: 1}, {Kind: script.Crash, N: 1}, {Kind: script.Format, Yes: true}, allocs(-1), writes(-1, 0), tampers(-1, 1), tampers(0, make([]byte, 1025)...), arms(-1), crashes(make([]byte, 1025)...)} {
		for k := range len(l) + 1 {
			if v := look(t, setup(5, 6), slices.Insert(slices.Clone(l), k, a)); told(v) != want {
				t.Errorf("%+v ahead of act %d: %s", a, k, told(v))
			}
		}
	}
}

// views are some of which no two are the same.
func views() []twin.View {
	act, other := nvm.Act{Kind: 1, At: 2, N: 3}, nvm.Act{Kind: 1, At: 2, N: 4}
	full := func(image []byte, reg api.Reg, acts ...nvm.Act) twin.View {
		return twin.View{Acts: acts, Image: image, Reg: reg}
	}
	reg := api.Reg{Count: 5, Root: api.Digest{1, 2, 3}}
	root := reg
	root.Root[31] = 1
	return []twin.View{
		{},
		full([]byte{0}, api.Reg{}), full([]byte{0, 0}, api.Reg{}), full(nil, api.Reg{Count: 1}), full(nil, api.Reg{Root: api.Digest{31: 1}}),
		full(nil, api.Reg{}, act), full(nil, api.Reg{}, nvm.Act{}), full(nil, api.Reg{}, nvm.Act{}, nvm.Act{}),
		full([]byte{1, 2}, reg, act), full([]byte{1, 3}, reg, act), full([]byte{2, 2}, reg, act), full([]byte{1}, reg, act), full(nil, reg, act), full([]byte{1, 2, 0}, reg, act),
		full([]byte{1, 2}, root, act), full([]byte{1, 2}, api.Reg{Count: 6, Root: reg.Root}, act), full([]byte{1, 2}, api.Reg{Count: 5}, act), full([]byte{1, 2}, api.Reg{Root: reg.Root}, act),
		full([]byte{1, 2}, reg, other), full([]byte{1, 2}, reg, nvm.Act{Kind: 2, At: 2, N: 3}), full([]byte{1, 2}, reg, nvm.Act{Kind: 1, At: 3, N: 3}),
		full([]byte{1, 2}, reg), full([]byte{1, 2}, reg, act, act), full([]byte{1, 2}, reg, act, other), full([]byte{1, 2}, reg, other, act), full([]byte{1, 2}, reg, act, nvm.Act{}),
	}
}

// P30.1: views are the same, if all that they have is; traced alike, if their acts are.
func TestSame(t *testing.T) {
	for k, a := range views() {
		for j, b := range views() {
			if twin.Same(a, b) != (k == j) {
				t.Errorf("views %d and %d: the same: %v", k, j, k != j)
			}
			if alike := fmt.Sprint(a.Acts) == fmt.Sprint(b.Acts); twin.Traced(a, b) != alike {
				t.Errorf("views %d and %d: their acts are the same: %v", k, j, !alike)
			}
		}
	}
}

// Rule 1: nil rows are empty ones. Rule 4: Same and Traced change nothing.
func TestSameOfNil(t *testing.T) {
	empty, none := twin.View{Acts: []nvm.Act{}, Image: []byte{}}, twin.View{}
	for _, a := range []twin.View{empty, none, {Acts: []nvm.Act{}}, {Image: []byte{}}} {
		for _, b := range []twin.View{empty, none} {
			if !twin.Same(a, b) || !twin.Same(b, a) || !twin.Traced(a, b) || !twin.Traced(b, a) {
				t.Errorf("%v and %v", a, b)
			}
		}
		if v := views()[8]; twin.Same(a, v) || twin.Same(v, a) || twin.Traced(a, v) || twin.Traced(v, a) {
			t.Errorf("%v and %v are the same", a, v)
		}
	}
	for k, a := range views() {
		twin.Same(a, a)
		twin.Traced(a, views()[8])
		if told(a) != told(views()[k]) {
			t.Error("view", k, "was changed")
		}
	}
}
