package heap_test

import (
	"fmt"
	"math/rand/v2"
	"testing"

	"garderobe/api"
	"garderobe/handle"
	"garderobe/nvm"
)

// chance is a call that may be OK, or not.
func (p *pair) chance(r *rand.Rand) call {
	kinds := append(all(), "Begin", "Begin", "Begin", "Commit", "Commit", "Alloc", "Alloc", "Alloc", "Write", "Realloc", "Set", "Open", "Open")
	c := call{kind: kinds[r.IntN(len(kinds))], k: r.IntN(17), yes: r.IntN(5) > 0}
	if c.kind == "Format" && r.IntN(4) > 0 {
		c.kind = "State"
	}
	c.n = []int{0, 1, 8, 9, 50, 120, 121, 256, 257, 700, 1500, 5000}[r.IntN(12)]
	c.at = r.IntN(40)
	if c.kind == "Read" {
		c.n = r.IntN(20)
	}
	c.b = text(r.Uint64(), r.IntN(60))
	if p.m.open && r.IntN(8) > 0 {
		var l []handle.Handle
		for page, x := range p.m.now().Meta().Pages { // handles that may be objects': of one serial or another
			for range 2 {
				l = append(l, handle.Handle(uint64(page)<<56|r.Uint64N(3)<<48|1+r.Uint64N(p.m.now().Meta().Roots.Next)))
			}
			if x.Kind == 2 {
				l = append(l, handle.Handle(uint64(page)<<56|x.Serial))
			}
		}
		if p.m.first() == api.OK {
			p.h.Now().Walk() // both have read the same then
			items, _ := p.m.now().Walk()
			for _, x := range items {
				l = append(l, x.H, x.H, x.H)
			}
		}
		c.x = l[r.IntN(len(l))]
	}
	return c
}

// P24.1 to P24.4: scripts of calls of all kinds, with losses of power, and what others write.
func TestScripts(t *testing.T) {
	for seed := range uint64(120) {
		t.Run(fmt.Sprint(seed), func(t *testing.T) {
			t.Parallel()
			r := rand.New(rand.NewPCG(seed, 3))
			count := []uint64{0, 0, 77, api.MaxCount - 3, api.MaxCount - 6, api.MaxCount - 12}[r.IntN(6)]
			p := paired(t, api.Geo{Pages: []int{1, 4, 9, 20}[r.IntN(4)], Tx: []int{4, 5, 8, 24}[r.IntN(4)]}, count)
			p.do(call{kind: "Format"})
			for range 200 {
				p.do(p.chance(r))
				picks := text(r.Uint64(), r.IntN(5))
				switch r.IntN(40) {
				case 0:
					p.befalls(func(d *nvm.Device) { d.Crash(picks...) })
				case 1, 2:
					n := 1 + r.IntN(30)
					p.befalls(func(d *nvm.Device) { d.Arm(n, picks...) })
				case 3:
					if r.IntN(4) == 0 {
						at, b := r.IntN(p.base.D.Len()-8), text(r.Uint64(), 8)
						p.befalls(func(d *nvm.Device) { d.Tamper(at, b) })
						p.do(call{kind: "Walk"})
						p.do(call{kind: "Close"})
						p.do(call{kind: "Open", yes: true})
						p.do(call{kind: "Format"})
					}
				}
				if p.base.D.Down() && r.IntN(3) == 0 {
					p.befalls((*nvm.Device).On)
					p.do(call{kind: "Close"})
					p.do(call{kind: "Open", yes: r.IntN(6) > 0})
				}
			}
		})
	}
}
