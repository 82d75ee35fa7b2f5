package twin_test

import (
	"fmt"
	"math/rand/v2"
	"testing"

	"garderobe/api"
	"garderobe/play"
	"garderobe/script"
	"garderobe/twin"
)

// text is n bytes, others of each seed.
func text(seed uint64, n int) []byte {
	r, b := rand.New(rand.NewPCG(seed, 30)), make([]byte, n)
	for k := range b {
		b[k] = byte(r.Uint32())
	}
	return b
}

// setup is one whose register holds noughts.
func setup(pages, tx int) play.Setup {
	return play.Setup{G: api.Geo{Pages: pages, Tx: tx}, Key: text(1, 32)}
}

// Acts, by the words.
func just(kind int) script.Act             { return script.Act{Kind: kind} }
func opens(write bool) script.Act          { return script.Act{Kind: script.Open, Yes: write} }
func allocs(n int) script.Act              { return script.Act{Kind: script.Alloc, N: n} }
func frees(which int) script.Act           { return script.Act{Kind: script.Free, Which: which} }
func crashes(picks ...byte) script.Act     { return script.Act{Kind: script.Crash, B: picks} }
func tampers(at int, b ...byte) script.Act { return script.Act{Kind: script.Tamper, At: at, B: b} }
func arms(n int, picks ...byte) script.Act {
	return script.Act{Kind: script.Arm, N: n, B: picks}
}
func writes(which, at int, b ...byte) script.Act {
	return script.Act{Kind: script.Write, Which: which, At: at, B: b}
}

// begun are acts that make a heap, and begin a transaction; more stand behind them.
func begun(more ...script.Act) []script.Act {
	return append([]script.Act{just(script.Format), opens(true), just(script.Begin)}, more...)
}

// look is what a script shows.
func look(t *testing.T, s play.Setup, l []script.Act, picks ...byte) twin.View {
	t.Helper()
	v, e := twin.Look(s, l, picks...)
	if e != api.OK {
		t.Fatal("Look: error", e)
	}
	return v
}

// told is all of a view as a text.
func told(v twin.View) string { return fmt.Sprintf("%v %x %v", v.Acts, v.Image, v.Reg) }

// some are picks that differ: none, noughts, all, some of the words.
func some() [][]byte { return [][]byte{nil, {0}, {1}, {0, 1}, {1, 0, 0}, text(9, 3000)} }

// pens write two scripts that are like one another, and do the first one as they write.
type pens struct {
	*rand.Rand
	t      *testing.T
	s      play.Setup
	w      *play.World
	a, b   []script.Act
	unlike map[uint64]struct{} // handles of objects into which unlike bytes were written; some may be of others since
	power  bool
}

// newPens are those of a script that begins with a Format that is OK.
func newPens(t *testing.T, seed uint64) *pens {
	t.Helper()
	r := rand.New(rand.NewPCG(seed, 31))
	p := &pens{Rand: r, t: t, s: setup([]int{1, 3, 6, 20, 40}[r.IntN(5)], []int{4, 5, 8, 24}[r.IntN(4)]), unlike: map[uint64]struct{}{}, power: seed%3 > 0}
	p.s.Key = text(seed, 16+16*r.IntN(2))
	p.s.Count = uint64(r.IntN(3) * 1000)
	var e api.Errno
	if p.w, e = play.New(p.s); e != api.OK {
		t.Fatal("New", e)
	}
	p.must(just(script.Format))
	return p
}

// do writes an act into both scripts.
func (p *pens) do(a script.Act) play.Answer {
	p.a, p.b = append(p.a, a), append(p.b, a)
	return p.w.Do(a)
}

// must does so with one that is to be OK.
func (p *pens) must(a script.Act) {
	p.t.Helper()
	if e := p.do(a).E; e != api.OK {
		p.t.Fatalf("act %d, %+v: error %d", len(p.a), a, e)
	}
}

// of is one of some numbers.
func (p *pens) of(l ...int) int { return l[p.IntN(len(l))] }
func (p *pens) which() int      { return p.of(0, 0, 1, 2, 3, 5, 9) }

// size is one that an object can have that can be freed in a transaction: the head and two maps are put, too.
func (p *pens) size() int {
	return min(p.of(1, 5, 8, 16, 30, 48, 100, 120, 121, 256, 257, 700, 1500, 4096), 256*(p.s.G.Tx-3))
}

// handle is that of an object of the heap as it stands.
func (p *pens) handle(which int) (uint64, bool) {
	l, e := p.w.Heap().Walk()
	if e != api.OK || which >= len(l) {
		return 0, false
	}
	return uint64(l[which].H), true
}

// writes puts bytes into an object: like ones in both scripts, or unlike ones.
func (p *pens) writes() {
	which, at, n := p.which(), p.IntN(4), p.of(0, 1, 4, 30, 120, 300, 1024)
	a := writes(which, at, text(p.Uint64(), n)...)
	b := a
	if x, there := p.handle(which); p.IntN(2) == 0 {
		b.B = text(p.Uint64(), n)
		if p.IntN(3) == 0 {
			clear(b.B)
		}
		if there {
			p.unlike[x] = struct{}{}
		}
	}
	p.do(a)
	p.b[len(p.b)-1] = b
}

// resizes makes an object longer or shorter: what was unlike stays so, wherever it is from then on.
func (p *pens) resizes() {
	which := p.which()
	x, _ := p.handle(which)
	out := p.do(script.Act{Kind: script.Realloc, Which: which, N: p.size()})
	if _, unlike := p.unlike[x]; unlike && out.E == api.OK {
		p.unlike[out.V] = struct{}{}
	}
}

// change does an act of a transaction.
func (p *pens) change() {
	switch p.IntN(10) {
	case 0, 1, 2:
		p.do(allocs(p.size()))
	case 3:
		p.do(frees(p.which()))
	case 4:
		p.resizes()
	case 5:
		p.do(script.Act{Kind: script.Set, K: p.IntN(3), Which: p.which(), Yes: p.IntN(3) == 0})
	case 6:
		p.do(script.Act{Kind: script.Read, Which: p.which(), N: p.of(0, 5, 100)})
	default:
		p.writes()
	}
}

// stands opens the heap for writing, if it isn't.
func (p *pens) stands() {
	if p.w.Heap().State() != api.OK {
		p.do(crashes(text(p.Uint64(), p.IntN(4))...))
		p.must(just(script.On))
		p.must(opens(true))
	}
}

// round is a transaction, and what becomes of it.
func (p *pens) round() {
	p.stands()
	p.do(just(script.Begin))
	for range 1 + p.IntN(8) {
		p.change()
	}
	if p.power && p.IntN(3) == 0 {
		p.do(arms(1+p.IntN(50), text(p.Uint64(), p.IntN(5))...))
	}
	switch p.IntN(8) {
	case 0:
		p.do(just(script.Abort))
	case 1:
		p.do(just(script.Close))
	case 2:
		p.do(opens(false))
		p.do(just(script.Check))
	default:
		p.do(just(script.Commit))
	}
}

// freed frees what is unlike, and commits that: in more transactions than one, if there is much.
func (p *pens) freed() {
	p.t.Helper()
	p.must(crashes(1))
	p.must(just(script.On))
	p.must(opens(true))
	p.must(just(script.Begin))
	for k := 0; ; {
		x, there := p.handle(k)
		if !there {
			break
		}
		if _, unlike := p.unlike[x]; !unlike {
			k++
			continue
		}
		if e := p.do(frees(k)).E; e == api.ErrTxFull {
			p.must(just(script.Commit))
			p.must(just(script.Begin))
			p.must(frees(k))
		} else if e != api.OK {
			p.t.Fatal("Free", e)
		}
	}
	p.must(just(script.Commit))
}
