package pages_test

import (
	"fmt"
	"math"
	"math/rand"
	"slices"
	"testing"

	"garderobe/api"
	"garderobe/pages"
)

// sizes are sizes at the ends of what takes whole pages, of one page more, and between.
func sizes() []int {
	return []int{121, 122, 255, 256, 257, 511, 512, 513, 700, 1024, 1025, 3840, 3841, 4095, 4096}
}

// noSizes are sizes that take no pages.
func noSizes() []int {
	l := append(far(), 0, 1, -1, 8, 119, 120, 4097, 4098, 8192)
	return slices.DeleteFunc(l, func(n int) bool { return n >= 121 && n <= 4096 })
}

// P19.3: Take at each place at which it fits, and at those at which it does not.
func TestTakePlaces(t *testing.T) {
	for _, many := range []int{0, 1, 2, 3, 15, 16, 17, 63, 64} {
		l := frees(many)
		for _, size := range sizes() {
			n := takes(size)
			for at := -3; at < many+3; at++ {
				out, e := pages.Take(l, at, size, 9)
				if at < 0 || at > many-n {
					says(t, fmt.Sprintf("Take of %d at %d of %d", n, at, many), out, e, api.ErrRange)
					continue
				}
				same(t, "Take", got(out, e), answer{row(frees(at), great(size, 9), frees(many-at-n)), api.OK})
			}
			for _, at := range append(far(), math.MaxInt-n, math.MaxInt-n+1, math.MinInt+n, math.MinInt+many-n, -n, many-n+1, many) {
				out, e := pages.Take(l, at, size, 9)
				says(t, fmt.Sprintf("Take of %d at %d of %d", n, at, many), out, e, api.ErrRange)
			}
		}
	}
}

// P19.3: Take of sizes and of serials at their ends, and beyond; of what may not be wherever it is, that is told first.
func TestTakeArguments(t *testing.T) {
	for size := 121; size <= 4096; size++ {
		serial := serials()[size%len(serials())]
		out, e := pages.Take(frees(20), 2, size, serial)
		same(t, "Take", got(out, e), answer{row(frees(2), great(size, serial), frees(18-takes(size))), api.OK})
	}
	rows := [][]pages.Page{nil, frees(1), frees(64), slices.Repeat([]pages.Page{slots(1)}, 64), some(64, 3)}
	for _, l := range rows {
		for _, at := range append(far(), 0, 1, 63, 64, -1) {
			for _, size := range noSizes() {
				out, e := pages.Take(l, at, size, 1)
				says(t, fmt.Sprintf("Take of %d bytes at %d", size, at), out, e, api.ErrArg)
			}
			for _, serial := range noSerials() {
				for _, size := range []int{121, 4096, 120, 4097} {
					out, e := pages.Take(l, at, size, serial)
					says(t, fmt.Sprintf("Take of serial %d at %d", serial, at), out, e, api.ErrArg)
				}
			}
		}
	}
}

// P19.3: Take over pages of each kind, first, between and last.
func TestTakeThere(t *testing.T) {
	for _, size := range []int{121, 257, 513, 1000, 4096} {
		n := takes(size)
		for _, own := range [][]pages.Page{{slots(0)}, {slots(7)}, great(200, 1), great(300, 2), great(700, 3)} {
			for ahead := range n + 2 {
				l := row(frees(ahead), own, frees(2*n))
				for at := range len(l) + 1 {
					out, e := pages.Take(l, at, size, 7)
					wantL, want := take(l, at, size, 7)
					same(t, fmt.Sprintf("Take of %d at %d of %v", n, at, l), got(out, e), answer{wantL, want})
					if at < ahead+len(own) && at+n > ahead && want != api.ErrThere {
						t.Fatal("the test's own model", at, l)
					}
				}
			}
		}
	}
}

// P19.3: Give of each kind of page, and beyond the ends.
func TestGive(t *testing.T) {
	l := row(frees(1), great(121, 1), great(300, 2), []pages.Page{slots(0), slots(7)}, great(4096, maxSerial), frees(2), great(513, 4))
	heads := map[int]bool{}
	for at, p := range l {
		out, e := pages.Give(l, at)
		if p.Kind != pages.Head {
			says(t, fmt.Sprintf("Give of page %d", at), out, e, api.ErrNone)
			continue
		}
		heads[at] = true
		same(t, "Give", got(out, e), answer{row(l[:at], frees(p.Run), l[at+p.Run:]), api.OK})
		again, e := pages.Give(out, at)
		says(t, "Give of what was given", again, e, api.ErrNone)
	}
	if len(heads) != 4 {
		t.Error("the test's own pages")
	}
	for _, at := range append(far(), -1, len(l), len(l)+1, 64) {
		out, e := pages.Give(l, at)
		says(t, fmt.Sprintf("Give of page %d", at), out, e, api.ErrNone)
		out, e = pages.Give(nil, at)
		says(t, fmt.Sprintf("Give of page %d of none", at), out, e, api.ErrNone)
	}
	out, e := pages.Give(nil, 0)
	says(t, "Give of none", out, e, api.ErrNone)
}

// P19.3: Turn of each kind of page, to each class, to none, and to such as there are not.
func TestTurn(t *testing.T) {
	l := row(frees(2), great(121, 1), great(300, 2), []pages.Page{slots(0), slots(3), slots(7)}, frees(1))
	classes := append(far(), -1)
	for c := range 10 {
		classes = append(classes, c)
	}
	for at := range l {
		for _, c := range classes {
			out, e := pages.Turn(l, at, c)
			wantL, want := turn(l, at, c)
			same(t, fmt.Sprintf("Turn(%d, %d)", at, c), got(out, e), answer{wantL, want})
		}
	}
	for _, at := range append(far(), -1, len(l), len(l)+1, 64) { // ErrRange ahead of ErrArg and ErrNone
		for _, c := range classes {
			out, e := pages.Turn(l, at, c)
			says(t, fmt.Sprintf("Turn(%d, %d)", at, c), out, e, api.ErrRange)
			out, e = pages.Turn(nil, at, c)
			says(t, fmt.Sprintf("Turn(%d, %d) of none", at, c), out, e, api.ErrRange)
		}
	}
}

// P19.3: Turn's errors one by one, without the model.
func TestTurnErrors(t *testing.T) {
	kinds := row(frees(1), []pages.Page{slots(3)}, great(300, 1))
	for _, c := range []int{-2, 8, math.MinInt, math.MaxInt, 256, 1 << 32} {
		for at := range kinds { // ErrArg ahead of ErrThere
			out, e := pages.Turn(kinds, at, c)
			says(t, fmt.Sprintf("Turn(%d, %d)", at, c), out, e, api.ErrArg)
		}
	}
	for c := range 8 {
		for at := 1; at < 4; at++ {
			out, e := pages.Turn(kinds, at, c)
			says(t, fmt.Sprintf("Turn(%d, %d)", at, c), out, e, api.ErrThere)
		}
		out, e := pages.Turn(kinds, 0, c)
		same(t, "Turn", got(out, e), answer{row([]pages.Page{slots(c)}, kinds[1:]), api.OK})
		back, e := pages.Turn(out, 0, -1)
		same(t, "Turn", got(back, e), answer{kinds, api.OK})
	}
	for _, at := range []int{0, 2, 3} {
		out, e := pages.Turn(kinds, at, -1)
		says(t, fmt.Sprintf("Turn(%d, -1)", at), out, e, api.ErrNone)
	}
	out, e := pages.Turn(kinds, 1, -1)
	same(t, "Turn", got(out, e), answer{row(frees(2), great(300, 1)), api.OK})
}

// P19.3: of pages that may not be ErrForm, whatever else is asked of them.
func TestFormFirst(t *testing.T) {
	bad := [][]pages.Page{
		frees(65), frees(1000), {tail()}, {free(), tail()}, {head(300, 1)}, {head(300, 1), free()}, {head(200, 1), tail()}, row(great(300, 1), []pages.Page{tail()}),
		{{Kind: 4}}, {{Kind: -1}}, {free(), {Class: 1}}, {slots(8)}, {slots(-1)}, {head(200, 0)}, {head(200, maxSerial+1)}, {{Kind: 2, Run: 1, Size: 120, Serial: 1}},
		{{Kind: 2, Run: 2, Size: 256, Serial: 1}, tail()}, {{Kind: 3, Size: 1}}, row(great(300, 1), []pages.Page{{Kind: 1, Serial: 1}}),
		{{Kind: 2, Run: math.MaxInt, Size: math.MaxInt, Serial: 1}}, {{Kind: 2, Run: math.MinInt, Size: 300, Serial: 1}}, {{Kind: 2, Run: -1, Size: 300, Serial: 1}, tail()},
	}
	for _, l := range bad {
		for _, at := range []int{0, 1, -1, len(l) - 1, len(l), 70, math.MinInt, math.MaxInt} {
			for _, size := range []int{200, 300, 120, 4097, 0, at} {
				for _, serial := range []uint64{1, 0, maxSerial + 1} {
					out, e := pages.Take(l, at, size, serial)
					says(t, fmt.Sprintf("Take of %v", l), out, e, api.ErrForm)
				}
			}
			out, e := pages.Give(l, at)
			says(t, fmt.Sprintf("Give of %v", l), out, e, api.ErrForm)
			for _, c := range []int{0, 7, 8, -1, -2, at} {
				out, e := pages.Turn(l, at, c)
				says(t, fmt.Sprintf("Turn of %v", l), out, e, api.ErrForm)
			}
		}
	}
}

// P19.3, P19.4: all calls at all places of all rows of up to four pages, those that may not be, too.
func TestAllRows(t *testing.T) {
	for n := range 5 {
		each(n, func(l []pages.Page) {
			for at := -1; at <= n; at++ {
				for _, size := range []int{120, 121, 300, 700, 4096} {
					out, e := pages.Take(l, at, size, 5)
					wantL, want := take(l, at, size, 5)
					same(t, fmt.Sprintf("Take(%v, %d, %d)", l, at, size), got(out, e), answer{wantL, want})
				}
				out, e := pages.Give(l, at)
				wantL, want := give(l, at)
				same(t, fmt.Sprintf("Give(%v, %d)", l, at), got(out, e), answer{wantL, want})
				for c := -2; c < 9; c += 3 {
					for _, c := range []int{c, -1} {
						out, e := pages.Turn(l, at, c)
						wantL, want := turn(l, at, c)
						same(t, fmt.Sprintf("Turn(%v, %d, %d)", l, at, c), got(out, e), answer{wantL, want})
					}
				}
			}
		})
	}
}

// P19.5: Give of what was taken leaves all as it was, wherever; what turns is turned back.
func TestThereAndBack(t *testing.T) {
	for seed := range 200 {
		l := some(1+seed%64, int64(seed))
		for at := range l {
			for _, size := range []int{121, 256, 257, 600, 2000, 4096} {
				out, e := pages.Take(l, at, size, uint64(seed)+1)
				if e != api.OK {
					continue
				}
				back, e := pages.Give(out, at)
				same(t, "Give", got(back, e), answer{l, api.OK})
			}
			if out, e := pages.Turn(l, at, seed%8); e == api.OK {
				back, e := pages.Turn(out, at, -1)
				same(t, "Turn", got(back, e), answer{l, api.OK})
			}
		}
	}
}

// P19.5: free pages that come to stand beside one another are one run.
func TestJoined(t *testing.T) {
	l := row(frees(2), great(300, 1), frees(1), great(700, 2), frees(3))
	if r := pages.Runs(l); !slices.Equal(r, []pages.Run{{At: 0, N: 2}, {At: 4, N: 1}, {At: 8, N: 3}}) {
		t.Error("Runs", r)
	}
	a, _ := pages.Give(l, 2)
	if r := pages.Runs(a); !slices.Equal(r, []pages.Run{{At: 0, N: 5}, {At: 8, N: 3}}) {
		t.Error("Runs behind the first Give", r)
	}
	b, _ := pages.Give(l, 5)
	if r := pages.Runs(b); !slices.Equal(r, []pages.Run{{At: 0, N: 2}, {At: 4, N: 7}}) {
		t.Error("Runs behind the other Give", r)
	}
	c, e := pages.Give(a, 5)
	same(t, "Give", got(c, e), answer{frees(11), api.OK})
	if r := pages.Runs(c); !slices.Equal(r, []pages.Run{{At: 0, N: 11}}) {
		t.Error("Runs behind both", r)
	}
	d, _ := pages.Turn(row(frees(1), []pages.Page{slots(1)}, frees(1)), 1, -1)
	if r := pages.Runs(d); !slices.Equal(r, []pages.Run{{At: 0, N: 3}}) {
		t.Error("Runs behind Turn", r)
	}
}

// P19.6: First finds a place just if a Take of so many pages is OK somewhere, and it is the least one.
func TestFirstAgainstTake(t *testing.T) {
	for seed := range 150 {
		l := some(seed%65, int64(seed))
		for n := 1; n <= 16; n++ {
			least, there := 0, false
			for at := len(l) - 1; at >= 0; at-- {
				if _, e := pages.Take(l, at, 256*n, 1); e == api.OK {
					least, there = at, true
				}
			}
			if at, ok := pages.First(l, n); at != least || ok != there {
				t.Fatalf("First of %d of %v: %d, %v; not %d, %v", n, l, at, ok, least, there)
			}
		}
	}
}

// P19.3 to P19.6: many calls in any order, held against what the words say.
func TestAnyOrder(t *testing.T) {
	for seed := range 20 {
		r := rand.New(rand.NewSource(int64(seed)))
		l := frees(1 + r.Intn(64))
		for range 500 {
			at, size, serial, class := r.Intn(len(l)+2)-1, 100+r.Intn(600), uint64(r.Intn(40)), r.Intn(10)-1
			if r.Intn(2) == 0 {
				at, _ = pages.First(l, 1+r.Intn(3))
			}
			var a, want answer
			switch r.Intn(4) {
			case 0:
				a, want = got(pages.Take(l, at, size, serial)), got(take(l, at, size, serial))
			case 1:
				a, want = got(pages.Give(l, at)), got(give(l, at))
			case 2:
				a, want = got(pages.Turn(l, at, class)), got(turn(l, at, class))
			case 3:
				a, want = got(pages.Turn(l, at, -1)), got(turn(l, at, -1))
			}
			same(t, fmt.Sprintf("a call at %d of %v", at, l), a, want)
			if a.e == api.OK {
				l = a.l
			}
			held(t, l)
		}
	}
}

// P1: no call panics, and beside an error there is nothing, at pages and numbers of any kind.
func TestAnything(t *testing.T) {
	r := rand.New(rand.NewSource(5))
	numbers := append(far(), 0, 1, 2, 3, 4, 7, 8, 15, 16, 17, 63, 64, 120, 121, 300, 4096, 4097, -1)
	one := func() int { return numbers[r.Intn(len(numbers))] }
	for range 20000 {
		l := some(r.Intn(67), r.Int63())
		for range r.Intn(3) {
			if len(l) > 0 {
				l[r.Intn(len(l))] = pages.Page{Kind: one(), Class: one(), Run: one(), Size: one(), Serial: uint64(one())}
			}
		}
		was := slices.Clone(l)
		at, size, serial, class := one(), one(), uint64(one()), one()
		for _, pair := range [][2]answer{
			{got(pages.Take(l, at, size, serial)), got(take(l, at, size, serial))},
			{got(pages.Give(l, at)), got(give(l, at))},
			{got(pages.Turn(l, at, class)), got(turn(l, at, class))},
		} {
			same(t, "a call with anything", pair[0], pair[1])
		}
		if e := pages.Check(l); (e == api.OK) != may(l) {
			t.Fatalf("%v: Check says %d", l, e)
		}
		pages.Bytes(l)
		pages.First(l, one())
		if !slices.Equal(pages.Runs(l), runs(l)) {
			t.Fatalf("%v: Runs", l)
		}
		if !slices.Equal(l, was) {
			t.Fatal("a call changed what it was given")
		}
	}
}
