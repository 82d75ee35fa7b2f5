package play_test

import (
	"fmt"
	"math/rand/v2"
	"slices"
	"testing"

	"garderobe/api"
	"garderobe/play"
	"garderobe/script"
)

// dice throw acts for a world.
type dice struct {
	*rand.Rand
	w      *play.World
	power  bool         // losses of power, too
	others bool         // what others write, too
	images [][]byte     // what was there, which others may put back
	next   []script.Act // what is to come
}

// newDice are others of each seed.
func newDice(seed uint64, w *play.World) *dice {
	return &dice{Rand: rand.New(rand.NewPCG(seed, 28)), w: w}
}

// chanceSetup is one of some geometries, keys and counts.
func chanceSetup(seed uint64) play.Setup {
	r := rand.New(rand.NewPCG(seed, 29))
	s := setup([]int{1, 3, 6, 9, 20, 34, 64}[r.IntN(7)], []int{4, 5, 8, 24}[r.IntN(4)])
	s.Key = text(seed, 16+16*r.IntN(2))
	s.Count = []uint64{0, 0, 0, 70, api.MaxCount - 4, api.MaxCount - 9, api.MaxCount - 20}[r.IntN(7)]
	return s
}

// of is one of some numbers.
func (d *dice) of(l ...int) int { return l[d.IntN(len(l))] }

// act is the next one: mostly one that helps on.
func (d *dice) act() script.Act {
	if len(d.next) > 0 {
		a := d.next[0]
		d.next = d.next[1:]
		return a
	}
	switch n := d.IntN(20); {
	case n == 0 && d.power:
		return d.loss()
	case n == 1 && d.others:
		return d.write()
	case n < 5:
		return d.any()
	}
	switch d.w.Heap().State() {
	case api.OK:
		return d.inside()
	case api.ErrClosed:
		if d.w.Base().D.Down() {
			return just(script.On)
		}
		if d.IntN(20) == 0 {
			return just(script.Format)
		}
		return opens(d.IntN(8) > 0)
	default:
		d.next = []script.Act{just(script.On), opens(true)}
		return []script.Act{just(script.Close), crashes(d.picks()...)}[d.IntN(2)]
	}
}

func (d *dice) picks() []byte { return text(d.Uint64(), d.IntN(6)) }
func (d *dice) which() int    { return d.of(0, 0, 1, 2, 3, 4, 6, 11) }
func (d *dice) size() int {
	return d.of(1, 5, 8, 9, 16, 17, 30, 48, 64, 90, 120, 121, 200, 256, 257, 500, 900, 1500, 4096)
}

// inside is an act of a heap that is open.
func (d *dice) inside() script.Act {
	switch d.IntN(24) {
	case 0, 1, 2, 3, 4:
		return allocs(d.size())
	case 5, 6:
		return frees(d.which())
	case 7, 8, 9:
		return reallocs(d.which(), d.size())
	case 10, 11, 12, 13:
		return writes(d.which(), d.IntN(20), text(d.Uint64(), d.of(1, 3, 9, 40, 300))...)
	case 14:
		return sets(d.IntN(4), d.which())
	case 15, 16:
		return just(script.Commit)
	case 17:
		return reads(d.which(), d.IntN(9), d.of(0, 1, 4, 30, 300))
	default:
		return just(script.Begin)
	}
}

// any is one of any kind but those of the device, also where it does not help; a Format seldom.
func (d *dice) any() script.Act {
	switch kind := d.IntN(script.Crash); kind {
	case script.Format:
		if d.IntN(3) > 0 {
			return just(script.Check)
		}
		return just(kind)
	case script.Open:
		return opens(d.IntN(2) == 0)
	case script.Alloc:
		return allocs(d.of(0, 1, 4096, 4097, 65535))
	case script.Free:
		return frees(d.of(0, 1, 30, 65535))
	case script.Realloc:
		return reallocs(d.which(), d.of(0, 1, 4096, 4097))
	case script.Write:
		return writes(d.which(), d.of(0, 5, 65535), d.picks()...)
	case script.Read:
		return reads(d.which(), d.of(0, 5, 65535), d.of(0, 5, 65535))
	case script.Set:
		return script.Act{Kind: kind, K: d.of(0, 1, 15, 16), Which: d.which(), Yes: d.IntN(2) == 0}
	case script.Root:
		return roots(d.of(0, 1, 2, 3, 15, 16))
	case script.Size:
		return sizes(d.which())
	default:
		return just(kind)
	}
}

// loss is one of power, or what is about to become one.
func (d *dice) loss() script.Act {
	switch d.IntN(7) {
	case 0:
		return crashes(d.picks()...)
	case 1:
		return just(script.On)
	case 2:
		return arms(0, d.picks()...)
	case 3, 4:
		if d.w.Heap().State() == api.OK { // in the Open that comes
			d.next = []script.Act{arms(1+d.IntN(60), d.picks()...), opens(true), just(script.On), opens(true)}
			return just(script.Close)
		}
	}
	return arms(1+d.IntN(40), d.picks()...)
}

// write is what others do: some bytes, or what was there at some time, put back.
func (d *dice) write() script.Act {
	dev := d.w.Base().D
	if d.IntN(3) == 0 || len(d.images) == 0 {
		d.images = append(d.images, dev.Image())
	}
	at := d.IntN(dev.Len())
	old := d.images[d.IntN(len(d.images))]
	switch d.IntN(6) {
	case 0: // all of it
		for from := 0; from < len(old); from += 1024 {
			d.next = append(d.next, tampers(from, old[from:min(from+1024, len(old))]))
		}
		return just(script.Check)
	case 1: // a block
		at -= at % 256
		return tampers(at, old[at:at+256])
	case 2: // a bit, and back
		was := []byte{dev.Image()[at]}
		d.next = []script.Act{d.inside(), tampers(at, was)}
		return tampers(at, []byte{was[0] ^ 1})
	case 3: // somewhere else
		return tampers(at, old[:min(8, dev.Len()-at)])
	default:
		return tampers(at, text(d.Uint64(), min(1+d.IntN(9), dev.Len()-at)))
	}
}

// P28.2: each answer, and all that becomes of the device, is what the words say, over scripts of all kinds of acts.
func TestScripts(t *testing.T) {
	for seed := range uint64(60) {
		t.Run(fmt.Sprint(seed), func(t *testing.T) {
			t.Parallel()
			s := chanceSetup(seed)
			w, o := made(t, s), newOther(t, s)
			d := newDice(seed, w)
			d.power, d.others = seed%3 > 0, seed%2 > 0
			for n, a := range append([]script.Act{opens(true), just(script.Format), opens(true)}, make([]script.Act, 250)...) {
				if n > 2 {
					a = d.act()
				}
				if !script.May(a) {
					t.Fatalf("%+v may not be", a)
				}
				got, want := w.Do(a), o.do(a)
				is(t, fmt.Sprintf("act %d, %+v", n, a), got, want)
				if want.E != api.OK && told(got) != told(fails(want.E)) {
					t.Errorf("act %d, %+v: beside an error there is more: %s", n, a, told(got))
				}
				if n%8 == 0 {
					alike(t, fmt.Sprintf("act %d, %+v", n, a), w.Base(), o.base, w.Heap(), o.heap)
				}
			}
			alike(t, "at last", w.Base(), o.base, w.Heap(), o.heap)
		})
	}
}

// The dice throw all kinds of acts, and most of their answers.
func TestDice(t *testing.T) {
	kinds, errs := make([]int, 20), map[api.Errno]int{}
	for seed := range uint64(30) {
		w := made(t, chanceSetup(seed), just(script.Format))
		d := newDice(seed, w)
		d.power, d.others = true, seed%2 > 0
		for range 200 {
			a := d.act()
			e := w.Do(a).E
			errs[e]++
			if e == api.OK {
				kinds[a.Kind]++
			}
		}
	}
	if slices.Min(kinds) < 5 {
		t.Error("OK, by kinds:", kinds)
	}
	for _, e := range []api.Errno{api.ErrArg, api.ErrRange, api.ErrDown, api.ErrTampered, api.ErrExhausted, api.ErrClosed, api.ErrNested, api.ErrNoTx, api.ErrHandle, api.ErrSize, api.ErrNoSpace, api.ErrTxFull, api.ErrReadOnly, api.ErrOpen} {
		if errs[e] < 3 {
			t.Error("error", e, "came", errs[e], "times")
		}
	}
}
