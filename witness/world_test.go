package witness_test

import (
	"math/rand/v2"
	"testing"

	"garderobe/api"
	"garderobe/play"
	"garderobe/script"
)

// text is n bytes, others of each seed.
func text(seed uint64, n int) []byte {
	r, b := rand.New(rand.NewPCG(seed, 29)), make([]byte, n)
	for k := range b {
		b[k] = byte(r.Uint32())
	}
	return b
}

func setup(pages, tx int) play.Setup {
	return play.Setup{G: api.Geo{Pages: pages, Tx: tx}, Key: text(1, 32)}
}

// Acts, by the words.
func just(kind int) script.Act    { return script.Act{Kind: kind} }
func opens(write bool) script.Act { return script.Act{Kind: script.Open, Yes: write} }
func arms(n int, picks ...byte) script.Act {
	return script.Act{Kind: script.Arm, N: n, B: picks}
}

// standing are acts behind which there are objects that were committed.
func standing() []script.Act {
	return []script.Act{just(script.Format), opens(true), just(script.Begin), {Kind: script.Alloc, N: 20}, {Kind: script.Alloc, N: 300}, {Kind: script.Write, Which: 1, At: 250, B: []byte("here")}, {Kind: script.Set, K: 2}, just(script.Commit), just(script.Check)}
}

// pen writes a script, and does it as it writes.
type pen struct {
	*rand.Rand
	s      play.Setup
	w      *play.World
	l      []script.Act
	out    []play.Answer
	images [][]byte // what was there at some time
}

// do writes an act down.
func (p *pen) do(a script.Act) {
	p.l, p.out = append(p.l, a), append(p.out, p.w.Do(a))
}

// of is one of some numbers.
func (p *pen) of(l ...int) int { return l[p.IntN(len(l))] }

func (p *pen) size() int     { return p.of(1, 5, 8, 20, 48, 100, 120, 121, 256, 300, 700) }
func (p *pen) which() int    { return p.of(0, 0, 1, 2, 3, 5) }
func (p *pen) picks() []byte { return text(p.Uint64(), p.IntN(5)) }

// change is an act of a transaction.
func (p *pen) change() script.Act {
	switch p.IntN(9) {
	case 0, 1, 2:
		return script.Act{Kind: script.Alloc, N: p.size()}
	case 3:
		return script.Act{Kind: script.Free, Which: p.which()}
	case 4:
		return script.Act{Kind: script.Realloc, Which: p.which(), N: p.size()}
	case 5:
		return script.Act{Kind: script.Set, K: p.IntN(3), Which: p.which(), Yes: p.IntN(3) == 0}
	default:
		return script.Act{Kind: script.Write, Which: p.which(), At: p.IntN(5), B: text(p.Uint64(), p.of(0, 1, 4, 30, 250))}
	}
}

// look is an act that changes nothing.
func (p *pen) look() script.Act {
	switch p.IntN(6) {
	case 0:
		return script.Act{Kind: script.Root, K: p.IntN(3)}
	case 1:
		return script.Act{Kind: script.Size, Which: p.which()}
	case 2:
		return just(p.of(script.Stat, script.Check))
	default:
		return script.Act{Kind: script.Read, Which: p.which(), N: p.of(0, 1, 5, 120)}
	}
}

// write is what others do: a few bytes, a block that was there at some time, or all that was.
func (p *pen) write() {
	d := p.w.Base().D
	p.images = append(p.images, d.Image())
	old, at := p.images[p.IntN(len(p.images))], p.IntN(d.Len())
	tamper := func(at int, b []byte) { p.do(script.Act{Kind: script.Tamper, At: at, B: b}) }
	switch p.IntN(5) {
	case 0:
		for from := 0; from < len(old); from += 1024 {
			tamper(from, old[from:min(from+1024, len(old))])
		}
	case 1:
		tamper(at-at%256, old[at-at%256:][:256])
	case 2:
		tamper(at, old[at:min(at+9, len(old))])
	default:
		tamper(at, text(p.Uint64(), p.of(1, 2, 30)))
	}
}

// loss is one of power, now or in what comes.
func (p *pen) loss() {
	if p.IntN(3) == 0 {
		p.do(script.Act{Kind: script.Crash, B: p.picks()})
		return
	}
	p.do(arms(1+p.IntN(50), p.picks()...))
}

// stands opens the heap again, if it is closed or can't be asked any more.
func (p *pen) stands() {
	switch p.w.Heap().State() {
	case api.OK:
		return
	case api.ErrClosed:
	default:
		p.do(just(script.Close))
	}
	p.do(just(script.On))
	p.do(opens(p.IntN(6) > 0))
}

// round is a transaction, and what befalls it.
func (p *pen) round(power, others bool) {
	p.stands()
	p.do(just(script.Begin))
	for range 1 + p.IntN(6) {
		p.do(p.change())
	}
	if power && p.IntN(3) == 0 {
		p.loss()
	}
	if others && p.IntN(3) == 0 {
		p.write()
	}
	p.do(p.look())
	p.do(just(p.of(script.Commit, script.Commit, script.Commit, script.Abort, script.Close)))
	p.do(p.look())
}

// written is a script of chance that begins with a Format that is OK.
func written(t *testing.T, seed uint64, power, others bool) *pen {
	t.Helper()
	r := rand.New(rand.NewPCG(seed, 30))
	p := &pen{Rand: r, s: setup(1+r.IntN(20), 4+r.IntN(9))}
	var e api.Errno
	if p.w, e = play.New(p.s); e != api.OK {
		t.Fatal("New", e)
	}
	p.do(just(script.Format))
	if p.out[0].E != api.OK {
		t.Fatal("Format", p.out[0].E)
	}
	for range 20 {
		p.round(power, others)
	}
	return p
}
