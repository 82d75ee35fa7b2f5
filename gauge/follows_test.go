package gauge_test

import (
	"fmt"
	"math/rand/v2"
	"slices"
	"testing"

	"garderobe/alloc"
	"garderobe/api"
	"garderobe/gauge"
	"garderobe/handle"
	"garderobe/heap"
)

// edges are numbers of bytes at which the place that is found becomes another one.
func edges() []int {
	var l []int
	for _, n := range sizes() {
		l = append(l, n, n+1)
	}
	for n := wide; n <= most; n += wide {
		l = append(l, n-1, n, n+1)
	}
	return append(l, 1)
}

// just fails unless Alloc is OK just of what fits; of a copy, so that all stays as it is.
func just(t *testing.T, what string, a *alloc.Alloc) {
	t.Helper()
	r, e := gauge.Of(a)
	if e != api.OK {
		t.Fatal("Of", e)
	}
	for _, n := range edges() {
		if n > most {
			continue
		}
		want := api.ErrNoSpace
		if r.Fits(n) {
			want = api.OK
		}
		if _, e := a.Copy().Alloc(n); e != want {
			t.Errorf("%s: %v: Alloc of %d: error %d", what, r, n, e)
		}
	}
	n := r.Most()
	if n == 0 {
		return
	}
	if _, e := a.Copy().Alloc(n); e != api.OK {
		t.Errorf("%s: Alloc of Most, %d: error %d", what, n, e)
	}
}

// some is a number of bytes, small or great.
func some(r *rand.Rand, great int) int {
	if r.IntN(3) == 0 {
		return 121 + r.IntN(great-120)
	}
	return 1 + r.IntN(120)
}

// P26.1, P26.2, P26.4: heaps in which objects were made, freed, made longer and shorter, one as the other.
func TestJustThen(t *testing.T) {
	for seed := range uint64(24) {
		t.Run(fmt.Sprint(seed), func(t *testing.T) {
			t.Parallel()
			r := rand.New(rand.NewPCG(seed, 26))
			n := []int{1, 3, 9, 17, 40, 64}[seed%6]
			a := fresh(t, n)
			for k := range 90 {
				l, _ := a.Walk()
				switch {
				case len(l) > 0 && r.IntN(3) == 0:
					a.Free(l[r.IntN(len(l))].H)
				case len(l) > 0 && r.IntN(5) == 0:
					a.Realloc(l[r.IntN(len(l))].H, some(r, most))
				default:
					a.Alloc(some(r, []int{300, 1500, most}[r.IntN(3)]))
				}
				has(t, fmt.Sprint("step ", k), a, seen(t, a, n))
				if k%6 == 0 {
					just(t, fmt.Sprint("step ", k), a)
				}
			}
		})
	}
}

// taken is how many pages objects have.
func taken(t *testing.T, a *alloc.Alloc) int {
	t.Helper()
	s, e := a.Stat()
	if e != api.OK {
		t.Fatal("Stat", e)
	}
	return s.Slots + s.Great
}

// P26.5: objects that are made one behind the other take just what they need, and find places as long as these are there.
func TestNeeded(t *testing.T) {
	for seed := range uint64(40) {
		t.Run(fmt.Sprint(seed), func(t *testing.T) {
			t.Parallel()
			r := rand.New(rand.NewPCG(seed, 27))
			n := []int{1, 2, 5, 16, 17, 33, 64}[seed%7]
			a := fresh(t, n)
			var l []int
			for range 150 {
				more := append(slices.Clone(l), some(r, []int{256, 700, most}[r.IntN(3)]))
				if seed%5 == 0 {
					more[len(l)] = []int{8, 16, 100, 256, 4000}[r.IntN(5)]
				}
				need, e := gauge.Need(more...)
				if e != api.OK {
					t.Fatal("Need", e)
				}
				want := api.OK
				if need > n {
					want = api.ErrNoSpace
				}
				if _, e := a.Alloc(more[len(l)]); e != want {
					t.Fatalf("Alloc of the last of %v in %d pages: error %d", more, n, e)
				}
				if want == api.OK {
					l = more
				}
				if need, _ := gauge.Need(l...); taken(t, a) != need {
					t.Fatalf("%v take %d pages, not %d", l, taken(t, a), need)
				}
			}
		})
	}
}

// P0.6: in transactions of few blocks Alloc says ErrNoSpace just where no place is, and ErrTxFull otherwise; when all is
// freed, and that is committed, there is as much room as behind Format.
func TestRoom(t *testing.T) {
	for seed := range uint64(16) {
		t.Run(fmt.Sprint(seed), func(t *testing.T) {
			t.Parallel()
			r := rand.New(rand.NewPCG(seed, 28))
			g := api.Geo{Pages: []int{2, 6, 20, 64}[seed%4], Tx: 6 + r.IntN(4)}
			h, _ := heap.New(made(t, g))
			h.Open(true)
			has(t, "behind Format", h.Now(), room(g.Pages, g.Pages))
			full := 0
			for range 25 {
				if e := h.Begin(); e != api.OK {
					t.Fatal("Begin", e)
				}
				for range 30 {
					n := some(r, 700) // of at most three pages, so that one transaction can free it
					now, _ := gauge.Of(h.Now())
					switch _, e := h.Alloc(n); {
					case e == api.ErrTxFull && now.Fits(n):
						full++
					case (e == api.OK) != now.Fits(n) || e != api.OK && e != api.ErrNoSpace:
						t.Fatalf("%v: Alloc of %d: error %d", now, n, e)
					}
				}
				if l, _ := h.Walk(); len(l) > 0 && r.IntN(2) == 0 {
					h.Free(l[r.IntN(len(l))].H)
				}
				if e := h.Commit(); e != api.OK {
					t.Fatal("Commit", e)
				}
				has(t, "committed", h.Now(), seen(t, h.Now(), g.Pages))
			}
			if g.Pages == 64 && full == 0 {
				t.Error("no transaction was full")
			}
			emptied(t, h)
			has(t, "all freed", h.Now(), room(g.Pages, g.Pages))
			h.Close()
			h.Open(false)
			has(t, "opened again", h.Now(), room(g.Pages, g.Pages))
			behindFormat(t, h, g.Pages)
		})
	}
}

// emptied frees all objects, in as many transactions as it takes.
func emptied(t *testing.T, h *heap.Heap) {
	t.Helper()
	l, _ := h.Walk()
	for _, x := range l {
		h.Begin()
		if e := h.Free(x.H); e != api.OK {
			t.Fatal("Free", e)
		}
		if e := h.Commit(); e != api.OK {
			t.Fatal("Commit", e)
		}
	}
}

// behindFormat fails unless all stands as in a new heap, but for the next serial.
func behindFormat(t *testing.T, h *heap.Heap, n int) {
	t.Helper()
	s, e := h.Stat()
	if e != api.OK || s != (alloc.Stat{Free: n}) {
		t.Errorf("Stat: %v, error %d", s, e)
	}
	for k := range 1 + (n+15)/16 + n {
		b, e := h.Now().Batch().Get(k)
		if k == 0 {
			clear(b[:8])
		}
		if e != api.OK || !slices.Equal(b, make([]byte, wide)) {
			t.Errorf("block %d: %x, error %d", k, b, e)
		}
	}
	if x, e := h.Root(0); x != handle.Handle(0) || e != api.OK {
		t.Error("Root", x, e)
	}
}
