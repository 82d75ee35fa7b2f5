package twin_test

import (
	"fmt"
	"sync/atomic"
	"testing"

	"garderobe/nvm"
	"garderobe/script"
	"garderobe/twin"
)

// others are scripts that are like one: of noughts, and of other bytes.
func others(seed uint64, l []script.Act) [][]script.Act {
	m := twin.Blind(l)
	for k, a := range m {
		if a.Kind == script.Write {
			m[k].B = text(seed+uint64(k), len(a.B))
		}
	}
	return [][]script.Act{m, twin.Blind(l)}
}

// P30.3, P0.5: scripts that are like one another, that begin with one Format, and in which nobody else writes, do the
// same acts of the memory, at every Commit, whatever befalls the power.
func TestTraced(t *testing.T) {
	for seed := range uint64(40) {
		t.Run(fmt.Sprint(seed), func(t *testing.T) {
			t.Parallel()
			p := newPens(t, seed)
			for range 12 {
				p.round()
			}
			for k, a := range p.a {
				if a.Kind != script.Commit && k < len(p.a)-1 {
					continue
				}
				one := look(t, p.s, p.a[:k+1], text(seed, 3)...)
				if len(one.Acts) == nvm.MostActs {
					t.Fatal("too many acts of the memory")
				}
				for n, other := range append(others(seed, p.a), p.b) {
					if !script.Like(p.a, other) {
						t.Fatal("the scripts are not like one another")
					}
					if !twin.Traced(one, look(t, p.s, other[:k+1], text(seed+1, 3)...)) {
						t.Fatalf("other acts of the memory behind %d acts, script %d", k+1, n)
					}
				}
			}
		})
	}
}

// P30.4, P0.5: when all objects that were written into with unlike bytes were freed, and that was committed, what can be
// seen is the same, whatever words last, and stays so; ahead of that it is not.
func TestErased(t *testing.T) {
	var apart atomic.Int64
	t.Run("all", func(t *testing.T) {
		for seed := range uint64(80) {
			t.Run(fmt.Sprint(seed), func(t *testing.T) {
				t.Parallel()
				p := newPens(t, seed)
				for range 10 {
					p.round()
				}
				if !twin.Same(look(t, p.s, p.a, 1), look(t, p.s, p.b, 1)) {
					apart.Add(1)
				}
				p.freed()
				for _, more := range [][]script.Act{nil, {just(script.Begin), allocs(30), writes(0, 0, 7), just(script.Commit)}, {just(script.Close), opens(true)}, {arms(5, 1, 0), just(script.Begin), allocs(3), just(script.Commit)}} {
					for _, a := range more {
						p.do(a)
					}
					if !script.Like(p.a, p.b) {
						t.Fatal("the scripts are not like one another")
					}
					for _, picks := range some()[1:4] {
						if !twin.Same(look(t, p.s, p.a, picks...), look(t, p.s, p.b, picks...)) {
							t.Fatalf("unlike behind %d acts, picks %v", len(p.a), picks)
						}
					}
				}
			})
		}
	})
	if apart.Load() < 25 {
		t.Error("unlike bytes were seen in", apart.Load(), "scripts")
	}
}

// The chapter's example: x and y are written into an object, it is freed, and that is committed. P30.4: not, if it is not
// freed, or that is not committed, or something that is not freed has them, too.
func TestExample(t *testing.T) {
	commit, begin := just(script.Commit), just(script.Begin)
	for what, c := range map[string]struct {
		rest []script.Act
		same bool
	}{
		"freed in the same transaction": {[]script.Act{frees(0), commit}, true},
		"freed in a later one":          {[]script.Act{commit, begin, frees(0), commit}, true},
		"not freed":                     {[]script.Act{commit}, false},
		"freed, but not committed":      {[]script.Act{commit, begin, frees(0)}, false},
		"freed, and that aborted":       {[]script.Act{commit, begin, frees(0), just(script.Abort)}, false},
		"another one was freed":         {[]script.Act{allocs(9), commit, begin, frees(1), commit}, false},
		"made longer, then freed":       {[]script.Act{{Kind: script.Realloc, N: 300}, commit, begin, frees(0), commit}, true},
		"made longer":                   {[]script.Act{{Kind: script.Realloc, N: 300}, commit}, false},
		"written over, with like bytes": {[]script.Act{writes(0, 0, 1), commit}, true},
		"never committed":               {nil, true},
		"aborted":                       {[]script.Act{just(script.Abort)}, true},
		"cut off, and opened again":     {[]script.Act{arms(6, 1), commit, crashes(), just(script.On), opens(true)}, true},
		"freed, with others beside it":  {[]script.Act{allocs(5), writes(1, 0, 3, 4), allocs(500), writes(2, 3, 5), commit, begin, frees(0), commit}, true},
	} {
		x := append(begun(allocs(5), writes(0, 0, 'x')), c.rest...)
		y := append(begun(allocs(5), writes(0, 0, 'y')), c.rest...)
		for _, picks := range some() {
			a, b := look(t, setup(5, 8), x, picks...), look(t, setup(5, 8), y, picks...)
			if twin.Same(a, b) != c.same || !twin.Traced(a, b) {
				t.Errorf("%s: the same: %v, the acts: %v", what, twin.Same(a, b), twin.Traced(a, b))
			}
		}
	}
}

// P30.3: scripts that are not like one another do other acts.
func TestNotTraced(t *testing.T) {
	s := setup(5, 8)
	one := begun(allocs(5), writes(0, 0, 'x'), just(script.Commit))
	for n, other := range [][]script.Act{
		begun(allocs(5), writes(0, 0, 'x'), just(script.Abort)), begun(allocs(5), writes(0, 0, 'x')), begun(allocs(500), writes(0, 300, 'x'), just(script.Commit)),
		append(begun(allocs(5), writes(0, 0, 'x'), just(script.Commit)), just(script.Close), opens(false)), one[:1], nil, one[1:],
	} {
		if twin.Traced(look(t, s, one), look(t, s, other)) || script.Like(one, other) {
			t.Errorf("script %d does the same acts", n)
		}
	}
}
