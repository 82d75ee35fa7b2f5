package gauge_test

import (
	"fmt"
	"math"
	"slices"
	"testing"

	"garderobe/alloc"
	"garderobe/api"
	"garderobe/gauge"
)

// room is one with these free pages, and slots of classes.
func room(many, longest int, l ...int) gauge.Room {
	r := gauge.Room{Free: many, Longest: longest}
	copy(r.Slots[:], l)
	return r
}

// The chapter's example.
func TestExample(t *testing.T) {
	r := gauge.Room{Free: 5, Longest: 5}
	if !r.Fits(1280) || r.Fits(1281) || r.Most() != 1280 {
		t.Error(r.Fits(1280), r.Fits(1281), r.Most())
	}
	has(t, "five pages", fresh(t, 5), r)
	has(t, "five of six", with(t, 6, 200), r)
}

// P26.1: of heaps that are empty, half full, full; with free pages in one run, and in several.
func TestOf(t *testing.T) {
	t.Parallel()
	for _, n := range []int{1, 2, 15, 16, 17, 32, 33, 63, 64} {
		has(t, "empty", fresh(t, n), room(n, n))
		l := slices.Repeat([]int{200}, n)
		has(t, "full", with(t, n, l...), room(0, 0))
		has(t, "half full", with(t, n, l[:n/2]...), room(n-n/2, n-n/2))
		has(t, "full but for a slot", with(t, n, append(l[:n-1:n-1], 100)...), room(0, 0, 0, 0, 0, 0, 0, 0, 0, 1))
	}
	a := with(t, 12, 200, 200, 200, 200, 200, 200, 200, 200, 200)
	has(t, "one run", a, room(3, 3))
	frees(t, a, 0)
	has(t, "two", a, room(4, 3))
	frees(t, a, 0, 1, 2, 3)
	has(t, "the first one is longer", a, room(8, 5))
	frees(t, a, 2)
	has(t, "three", a, room(9, 5))
	a = with(t, 12, 1000, 1000, 1000)
	frees(t, a, 1)
	has(t, "in the middle", a, room(4, 4))
	frees(t, a, 0)
	has(t, "at the beginning", a, room(8, 8))
	frees(t, a, 0)
	has(t, "nothing is left", a, room(12, 12))
}

// P26.1: slots that are free, of each class, in one page and in several.
func TestOfSlots(t *testing.T) {
	t.Parallel()
	for c, n := range sizes() {
		a, want := fresh(t, 4), room(4, 4)
		for k := range 3*slotsOf(c) + 1 {
			if _, e := a.Alloc(n - k%7); e != api.OK {
				t.Fatal("Alloc", e)
			}
			if k%slotsOf(c) == 0 {
				want.Free--
				want.Longest--
				want.Slots[c] += slotsOf(c)
			}
			want.Slots[c]--
			has(t, fmt.Sprintf("%d of class %d", k+1, c), a, want)
		}
		frees(t, a, 0, slotsOf(c), 2*slotsOf(c))
		want.Slots[c] += 3
		has(t, fmt.Sprint("first ones freed, class ", c), a, want)
	}
	a := fresh(t, 8)
	var want gauge.Room
	for c, n := range sizes() {
		a.Alloc(n)
		want.Slots[c] = slotsOf(c) - 1
	}
	has(t, "each class", a, want)
	a = fresh(t, 9)
	for k := range 20 {
		a.Alloc([]int{8, 24}[k%2])
	}
	has(t, "two classes", a, room(6, 6, 6, 0, 6))
	a.Alloc(700)
	has(t, "beside a great one", a, room(3, 3, 6, 0, 6))
}

// P26.1: slots are of their page's class, however short their objects are.
func TestOfShort(t *testing.T) {
	t.Parallel()
	a := with(t, 2, 120, 120)
	b, _ := a.Batch().Get(2)
	b[0], b[128] = 1, 8 // the objects have a byte, and 8
	if e := a.Batch().Put(2, b); e != api.OK {
		t.Fatal(e)
	}
	has(t, "full", a, room(1, 1))
	clear(b[128:])
	a.Batch().Put(2, b)
	has(t, "one of two", a, room(1, 1, 0, 0, 0, 0, 0, 0, 0, 1))
}

// fails fails unless Of answers an error, and nothing beside it.
func fails(t *testing.T, what string, a *alloc.Alloc, want api.Errno) {
	t.Helper()
	if r, e := gauge.Of(a); e != want || r != (gauge.Room{}) {
		t.Errorf("%s: %v, error %d; not %d", what, r, e, want)
	}
}

// P26.1: of a nil one; Walk's errors.
func TestOfRefused(t *testing.T) {
	t.Parallel()
	fails(t, "nil", nil, api.ErrNil)
	fails(t, "one that no call made", &alloc.Alloc{}, api.ErrNil)
	g := api.Geo{Pages: 6, Tx: 24}
	b := made(t, g)
	a := over(t, b, 100)
	for _, n := range []int{9, 500, 100} {
		a.Alloc(n)
	}
	o := a.Copy()
	o.Batch().Put(4, slices.Repeat([]byte{1}, wide))
	has(t, "a trace behind a great one", o, room(2, 2, 0, 9, 0, 0, 0, 0, 0, 1))
	o.Batch().Put(2, slices.Repeat([]byte{1}, wide))
	fails(t, "a page of slots that may not be", o, api.ErrForm)
	if e := a.Batch().Commit(); e != api.OK {
		t.Fatal(e)
	}
	a = over(t, b, 100)
	spoil := func(k int) { b.D.Tamper((2+k)*wide+9, []byte{1, 2, 3}) }
	for _, k := range []int{1, 3, 4, 6, 7} { // neither maps, nor great ones, nor free pages are read again
		spoil(k)
	}
	if r, e := gauge.Of(a); e != api.OK || r != room(2, 2, 0, 9, 0, 0, 0, 0, 0, 1) {
		t.Error("others were spoilt", r, e)
	}
	none := over(t, made(t, g), 100)
	has(t, "nothing", none, room(6, 6))
	spoil(5)
	fails(t, "a page of slots was spoilt", a, api.ErrTampered)
	fails(t, "poisoned", a, api.ErrTampered)
	b = made(t, g)
	a = over(t, b, 100)
	a.Alloc(9)
	a.Batch().Commit()
	b.D.Crash()
	fails(t, "without power", a, api.ErrDown)
}

// Rule 3: Of changes nothing; what is done with its answer changes none.
func TestOfChangesNothing(t *testing.T) {
	t.Parallel()
	a := with(t, 20, 9, 500, 100, 3)
	was, keys := fmt.Sprint(a.Meta()), a.Batch().Keys()
	r, _ := gauge.Of(a)
	r.Slots[1], r.Free = 77, 0
	if fmt.Sprint(a.Meta()) != was || !slices.Equal(a.Batch().Keys(), keys) {
		t.Error("something was changed")
	}
	has(t, "once more", a, seen(t, a, 20))
}

// rooms are of many kinds: with no free page, one, several; with slots free, or not.
func rooms() []gauge.Room {
	l := []gauge.Room{{}, room(1, 1), room(2, 1), room(2, 2), room(9, 3), room(15, 15), room(16, 15), room(16, 16), room(64, 64), room(64, 17)}
	for c := range sizes() {
		var r gauge.Room
		r.Slots[c] = 1
		l = append(l, r)
		r.Slots[c] = 7
		r.Free, r.Longest = 2, 1
		l = append(l, r)
		r.Slots[0] = 1
		r.Free, r.Longest = 0, 0
		l = append(l, r)
	}
	odd := []gauge.Room{room(-1, -1, -1, -1, 1), room(0, 5), room(5, 0), room(math.MaxInt, math.MaxInt, math.MinInt), room(math.MinInt, math.MinInt, math.MaxInt)}
	return append(l, odd...)
}

// fits tells whether n bytes fit, by the words.
func fits(r gauge.Room, n int) bool {
	switch {
	case n < 1 || n > most:
		return false
	case n > 120:
		return r.Longest >= (n+255)/256
	}
	c := 0
	for sizes()[c] < n {
		c++
	}
	return r.Slots[c] > 0 || r.Free > 0
}

// P26.2: all numbers of bytes, and far more, and far less.
func TestFits(t *testing.T) {
	for _, r := range rooms() {
		was, greatest := r, 0
		for n := -300; n <= most+300; n++ {
			if r.Fits(n) != fits(r, n) {
				t.Errorf("%v: Fits(%d) is %v", r, n, r.Fits(n))
			}
			if fits(r, n) {
				greatest = n
			}
		}
		for _, n := range []int{math.MinInt, math.MinInt + 1, math.MinInt32, -65536, 65536, 65537, 1<<32 + 1, math.MaxInt32, math.MaxInt - 255, math.MaxInt - 1, math.MaxInt} {
			if r.Fits(n) {
				t.Errorf("%v: Fits(%d)", r, n)
			}
		}
		if m := r.Most(); m != greatest {
			t.Errorf("%v: Most is %d, not %d", r, m, greatest)
		}
		if r != was {
			t.Error("it was changed", r, was)
		}
	}
}

// P26.2: the edges, with no free page, one, and several.
func TestFitsEdges(t *testing.T) {
	for _, x := range []struct {
		r     gauge.Room
		fit   []int
		not   []int
		great int
	}{
		{room(0, 0), nil, []int{-1, 0, 1, 8, 120, 121, 256, 257, 4096, 4097}, 0},
		{room(1, 1), []int{1, 8, 9, 120, 121, 256}, []int{-1, 0, 257, 4096, 4097}, 256},
		{room(3, 1), []int{1, 120, 121, 256}, []int{0, 257, 512}, 256},
		{room(5, 5), []int{1, 120, 121, 256, 257, 1280}, []int{0, 1281, 4096}, 1280},
		{room(16, 16), []int{1, 4096}, []int{0, 4097}, 4096},
		{room(64, 64), []int{1, 4096}, []int{0, 4097, 64 * 256}, 4096},
		{room(0, 0, 0, 0, 3), []int{17, 24}, []int{0, 1, 8, 16, 25, 121}, 24},
		{room(0, 0, 1), []int{1, 8}, []int{0, 9, 16}, 8},
		{room(0, 0, 1, 0, 0, 0, 0, 0, 0, 1), []int{1, 8, 97, 120}, []int{9, 96, 121}, 120},
	} {
		for _, n := range x.fit {
			if !x.r.Fits(n) {
				t.Errorf("%v: %d doesn't fit", x.r, n)
			}
		}
		for _, n := range x.not {
			if x.r.Fits(n) {
				t.Errorf("%v: %d fits", x.r, n)
			}
		}
		if x.r.Most() != x.great {
			t.Errorf("%v: Most is %d, not %d", x.r, x.r.Most(), x.great)
		}
	}
}

// needs fails unless objects of these sizes take so many pages.
func needs(t *testing.T, want int, l ...int) {
	t.Helper()
	was := slices.Clone(l)
	if n, e := gauge.Need(l...); e != api.OK || n != want {
		t.Errorf("%v: %d, error %d; not %d", l, n, e, want)
	}
	if !slices.Equal(l, was) {
		t.Error("the sizes were changed", l)
	}
}

// P26.3: of none, of one, of as many as a page has slots, of one more, of mixed ones.
func TestNeed(t *testing.T) {
	needs(t, 0)
	needs(t, 0, []int{}...)
	for n := 1; n <= most; n++ {
		want := 1
		if n > 120 {
			want = (n + 255) / 256
		}
		needs(t, want, n)
	}
	var all []int
	for c, n := range sizes() {
		l := slices.Repeat([]int{n}, slotsOf(c))
		needs(t, 1, l...)
		needs(t, 2, append(l, n)...)
		needs(t, 3, append(slices.Repeat(l, 2), n-6)...)
		needs(t, 10, slices.Repeat(l, 10)...)
		all = append(all, l...)
		needs(t, c+1, all...)
	}
	needs(t, 8, 8, 16, 24, 32, 48, 64, 96, 120)
	needs(t, 16, append(all, all...)...)
	needs(t, 16, 4096)
	needs(t, 33, 4096, 4096, 1)
	needs(t, 7, 121, 3, 257, 90, 256, 4, 120, 90)
	needs(t, 1000, slices.Repeat([]int{256}, 1000)...)
	needs(t, 100000, slices.Repeat([]int{100, 120}, 100000)...)
}

// P26.3: ErrSize, wherever a size stands that may not be.
func TestNeedRefused(t *testing.T) {
	for _, n := range []int{0, -1, 4097, math.MinInt, math.MaxInt, -4096, 1 << 32, 1<<32 + 8, 1<<63 - 255} {
		for _, l := range [][]int{{n}, {n, 5, 500}, {5, n, 500}, {5, 500, n}, {n, n}, {n, 0, 4097}} {
			if need, e := gauge.Need(l...); e != api.ErrSize || need != 0 {
				t.Errorf("%v: %d, error %d", l, need, e)
			}
		}
	}
}
