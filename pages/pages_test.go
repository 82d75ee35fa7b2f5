package pages_test

import (
	"bytes"
	"math"
	"math/rand"
	"slices"
	"testing"

	"garderobe/api"
	"garderobe/pages"
)

// The chapter's constants and its example.
func TestExample(t *testing.T) {
	if pages.Free != 0 || pages.Slots != 1 || pages.Head != 2 || pages.Tail != 3 {
		t.Error("kinds", pages.Free, pages.Slots, pages.Head, pages.Tail)
	}
	l, e := pages.Take(make([]pages.Page, 4), 1, 300, 1)
	if e != api.OK || !slices.Equal(l, []pages.Page{{}, {Kind: pages.Head, Run: 2, Size: 300, Serial: 1}, {Kind: pages.Tail}, {}}) {
		t.Error("Take", l, e)
	}
	if r := pages.Runs(l); !slices.Equal(r, []pages.Run{{At: 0, N: 1}, {At: 3, N: 1}}) {
		t.Error("Runs", r)
	}
}

// P19.1: Check of no pages, of one of each kind, of 64 and of more.
func TestCheckCounts(t *testing.T) {
	for _, l := range [][]pages.Page{nil, {}} {
		if e := pages.Check(l); e != api.OK {
			t.Error("no pages may be", e)
		}
	}
	for n := range 200 {
		want := api.OK
		if n > 64 {
			want = api.ErrForm
		}
		for _, l := range [][]pages.Page{frees(n), slices.Repeat([]pages.Page{slots(7)}, n), slices.Repeat([]pages.Page{head(200, 5)}, n), some(n, int64(n))} {
			if e := pages.Check(l); e != want {
				t.Errorf("%d pages: Check says %d", n, e)
			}
		}
	}
	if e := pages.Check(slices.Repeat(great(4096, 1), 4)); e != api.OK {
		t.Error("four of the greatest objects", e)
	}
	if e := pages.Check(frees(1 << 16)); e != api.ErrForm {
		t.Error("65536 pages", e)
	}
}

// alone fails unless Check, Bytes and Parse say of a page, alone and among others, what they should.
func alone(t *testing.T, p pages.Page) {
	t.Helper()
	if e := pages.Check([]pages.Page{p}); (e == api.OK) != may([]pages.Page{p}) || e != api.OK && e != api.ErrForm {
		t.Errorf("%v: Check says %d", p, e)
	}
	l := []pages.Page{p}
	if is(p) && p.Kind == 2 {
		l = great(p.Size, p.Serial)
	}
	l = row(frees(2), l, []pages.Page{slots(0)})
	if e := pages.Check(l); (e == api.OK) != may(l) || e != api.OK && e != api.ErrForm {
		t.Errorf("%v among others: Check says %d", p, e)
	}
	for k := range 16 {
		l := slices.Repeat([]pages.Page{slots(2)}, 16)
		l[k] = p
		b, e := pages.Bytes(l)
		if !is(p) {
			if e != api.ErrForm || len(b) != 0 {
				t.Errorf("%v at %d: Bytes says %x, error %d", p, k, b, e)
			}
			continue
		}
		if e != api.OK || !bytes.Equal(b, block(l)) {
			t.Errorf("%v at %d: Bytes says %x, error %d", p, k, b, e)
		}
		if back, e := pages.Parse(b); e != api.OK || !slices.Equal(back, l) {
			t.Errorf("%v at %d: Parse says %v, error %d", p, k, back, e)
		}
	}
}

// P19.1: each field of a page of each kind below, at and beyond its ends.
func TestFields(t *testing.T) {
	numbers := append(far(), -1)
	for n := range 18 {
		numbers = append(numbers, n)
	}
	numbers = append(numbers, 119, 120, 121, 122, 254, 256, 257, 511, 512, 513, 3839, 3840, 3841, 4094, 4095, 4096, 4097, 4098)
	base := []pages.Page{free(), slots(0), slots(7), head(121, 1), head(256, 1), head(257, maxSerial), head(4096, maxSerial), head(3840, 77), head(3841, 77), tail(), {Kind: 4}, {Kind: -1}, {Kind: 256}}
	for _, p := range base {
		alone(t, p)
		for _, n := range numbers {
			for _, set := range []func(*pages.Page){
				func(q *pages.Page) { q.Kind = n },
				func(q *pages.Page) { q.Class = n },
				func(q *pages.Page) { q.Run = n },
				func(q *pages.Page) { q.Size = n },
				func(q *pages.Page) { q.Serial = uint64(n) },
			} {
				q := p
				set(&q)
				alone(t, q)
			}
		}
		for _, serial := range append(noSerials(), serials()...) {
			q := p
			q.Serial = serial
			alone(t, q)
		}
	}
}

// P19.1: of each size the Run that it takes, and no other one.
func TestRunIsTheSizes(t *testing.T) {
	for size := 100; size < 4200; size++ {
		for run := range 19 {
			p := pages.Page{Kind: 2, Run: run, Size: size, Serial: 3}
			l := []pages.Page{p}
			for len(l) < run {
				l = append(l, tail())
			}
			want := api.ErrForm
			if size >= 121 && size <= 4096 && run == (size+255)/256 {
				want = api.OK
			}
			if e := pages.Check(l); e != want {
				t.Fatalf("%d bytes in %d pages: Check says %d", size, run, e)
			}
			if _, e := pages.Bytes([]pages.Page{p}); e != want {
				t.Fatalf("%d bytes in %d pages: Bytes says %d", size, run, e)
			}
		}
	}
}

// P19.1: behind each Head just as many Tails as it has, and no others.
func TestTails(t *testing.T) {
	for _, size := range []int{121, 256, 257, 512, 513, 700, 1024, 4095, 4096} {
		n := takes(size)
		for tails := range 20 {
			own := []pages.Page{head(size, 3)}
			for range tails {
				own = append(own, tail())
			}
			for _, ahead := range [][]pages.Page{nil, frees(1), {slots(1)}, great(300, 2), great(200, 2)} {
				for _, behind := range [][]pages.Page{nil, frees(1), {slots(1)}, great(300, 2), great(200, 2)} {
					l := row(ahead, own, behind)
					want := api.ErrForm
					if tails == n-1 {
						want = api.OK
					}
					if e := pages.Check(l); e != want {
						t.Fatalf("%v: Check says %d, not %d", l, e, want)
					}
				}
			}
		}
		for cut := range n - 1 { // a Head whose Tails would stand beyond the end, or that others stand between
			l := great(size, 3)
			if e := pages.Check(l[:1+cut]); e != api.ErrForm {
				t.Errorf("a Head of %d with %d Tails: Check says %d", n, cut, e)
			}
			for _, p := range []pages.Page{free(), slots(0), head(200, 4)} {
				broken := row(l[:1+cut], []pages.Page{p}, l[1+cut:])
				other := slices.Clone(l)
				other[1+cut] = p
				if pages.Check(broken) != api.ErrForm || pages.Check(other) != api.ErrForm {
					t.Errorf("a Head of %d with a page between its Tails: Check says OK", n)
				}
			}
		}
	}
	for _, p := range []pages.Page{free(), slots(1), head(200, 1)} {
		for _, l := range [][]pages.Page{{tail()}, {p, tail()}, {tail(), p}, {p, p, tail(), tail()}, row(great(300, 1), []pages.Page{p, tail()})} {
			if e := pages.Check(l); e != api.ErrForm {
				t.Errorf("%v: Check says %d", l, e)
			}
		}
	}
}

// P19.1: Check of all rows of up to five pages of each kind, of some that are none, too.
func TestCheckRows(t *testing.T) {
	for n := range 6 {
		each(n, func(l []pages.Page) {
			if e := pages.Check(l); (e == api.OK) != may(l) || e != api.OK && e != api.ErrForm {
				t.Fatalf("%v: Check says %d", l, e)
			}
		})
	}
}

// P19.1: Bytes of each number of pages, with Free pages behind, and of too many, whatever they are.
func TestBytesCounts(t *testing.T) {
	for n := range 17 {
		l := some(n, int64(n))
		b, e := pages.Bytes(l)
		if e != api.OK || !bytes.Equal(b, block(l)) {
			t.Errorf("%d pages: %x, error %d", n, b, e)
		}
		if back, e := pages.Parse(b); e != api.OK || !slices.Equal(back, row(l, frees(16-n))) {
			t.Errorf("%d pages: Parse says %v, error %d", n, back, e)
		}
	}
	if b, e := pages.Bytes(nil); e != api.OK || !bytes.Equal(b, make([]byte, 256)) {
		t.Errorf("nil: %x, error %d", b, e)
	}
	for _, n := range []int{17, 18, 32, 64, 65, 256, 272, 1 << 16} {
		for _, p := range []pages.Page{free(), slots(1), tail(), {Kind: 9}} { // ErrArg ahead of ErrForm
			if b, e := pages.Bytes(slices.Repeat([]pages.Page{p}, n)); e != api.ErrArg || len(b) != 0 {
				t.Errorf("%d pages: %x, error %d", n, b, e)
			}
		}
	}
}

// P19.1: in a block it plays no part whether Heads and Tails fit.
func TestBytesOfTails(t *testing.T) {
	for n := range 5 {
		each(n, func(l []pages.Page) {
			b, e := pages.Bytes(l)
			if slices.ContainsFunc(l, func(p pages.Page) bool { return !is(p) }) {
				if e != api.ErrForm || len(b) != 0 {
					t.Fatalf("%v: %x, error %d", l, b, e)
				}
				return
			}
			if e != api.OK || !bytes.Equal(b, block(l)) {
				t.Fatalf("%v: %x, error %d", l, b, e)
			}
			if back, e := pages.Parse(b); e != api.OK || !slices.Equal(back, row(l, frees(16-n))) {
				t.Fatalf("%v: Parse says %v, error %d", l, back, e)
			}
		})
	}
	for _, p := range []pages.Page{tail(), head(4096, maxSerial)} {
		l := slices.Repeat([]pages.Page{p}, 16)
		if b, e := pages.Bytes(l); e != api.OK || !bytes.Equal(b, block(l)) {
			t.Errorf("sixteen of %v: %x, error %d", p, b, e)
		}
	}
}

// noBlock fails unless Parse says ErrForm.
func noBlock(t *testing.T, what string, b []byte) {
	t.Helper()
	if l, e := pages.Parse(b); e != api.ErrForm || len(l) != 0 {
		t.Errorf("%s: %v, error %d", what, l, e)
	}
}

// P19.1: a block has 256 bytes.
func TestParseLength(t *testing.T) {
	for _, l := range [][]pages.Page{nil, some(16, 4), slices.Repeat([]pages.Page{tail()}, 16)} {
		long := append(block(l), make([]byte, 300)...)
		for n := range long {
			if n != 256 {
				noBlock(t, "a block that is cut, or goes on", long[:n])
				noBlock(t, "a block that is cut, or goes on", long[:n:n])
			}
		}
		noBlock(t, "two blocks", append(block(l), block(l)...))
		noBlock(t, "a byte ahead", append([]byte{0}, block(l)...))
		noBlock(t, "a byte too few ahead", block(l)[1:])
	}
	noBlock(t, "nil", nil)
	noBlock(t, "no bytes", []byte{})
	noBlock(t, "65536 noughts", make([]byte, 65536))
}

// P19.1: one byte turned at each place, into each other byte.
func TestParseTurned(t *testing.T) {
	for i, l := range [][]pages.Page{nil, some(16, 7), row(great(4096, maxSerial)), row(great(121, 1), great(300, 256), []pages.Page{slots(7), slots(0)}), slices.Repeat([]pages.Page{tail()}, 16)} {
		b := block(l)
		for at := range b {
			for by := 1; by < 256; by++ {
				b[at] ^= byte(by)
				want, ok := sixteen(b)
				back, e := pages.Parse(b)
				if ok && (e != api.OK || !slices.Equal(back, want)) || !ok && (e != api.ErrForm || len(back) != 0) {
					t.Fatalf("block %d, byte %d by %d: %v, error %d", i, at, by, back, e)
				}
				if e == api.OK {
					if again, e := pages.Bytes(back); e != api.OK || !bytes.Equal(again, b) {
						t.Fatalf("block %d, byte %d by %d: the way back: %x, error %d", i, at, by, again, e)
					}
				}
				b[at] ^= byte(by)
			}
		}
	}
}

// P19.1: bytes of any kind.
func TestParseAnything(t *testing.T) {
	r := rand.New(rand.NewSource(3))
	for range 5000 {
		b := block(some(16, r.Int63()))
		for range r.Intn(4) {
			b[r.Intn(256)] = byte(r.Intn(256))
		}
		if r.Intn(10) == 0 {
			r.Read(b)
		}
		want, ok := sixteen(b)
		back, e := pages.Parse(b)
		if ok && (e != api.OK || !slices.Equal(back, want)) || !ok && (e != api.ErrForm || len(back) != 0) {
			t.Fatalf("%x: %v, error %d", b, back, e)
		}
	}
}

// held fails unless Runs and First are what the words say.
func held(t *testing.T, l []pages.Page) {
	t.Helper()
	if r := pages.Runs(l); !slices.Equal(r, runs(l)) {
		t.Fatalf("%v: Runs are %v, not %v", l, r, runs(l))
	}
	for n := -2; n < min(len(l), 66)+3; n++ {
		wantAt, want := first(l, n)
		if at, ok := pages.First(l, n); at != wantAt || ok != want {
			t.Fatalf("%v: First of %d is %d, %v; not %d, %v", l, n, at, ok, wantAt, want)
		}
	}
}

// P19.2: of all rows of up to five pages, those that may not be, too; of none, of all, of no free ones.
func TestRunsAndFirst(t *testing.T) {
	for n := range 6 {
		each(n, func(l []pages.Page) { held(t, l) })
	}
	for n := range 70 {
		held(t, frees(n))
		held(t, slices.Repeat([]pages.Page{slots(1)}, n))
		held(t, slices.Repeat([]pages.Page{tail()}, n))
		held(t, slices.Repeat([]pages.Page{free(), slots(1)}, n))
		held(t, some(n, int64(n)))
	}
	if len(pages.Runs(nil)) != 0 || len(pages.Runs([]pages.Page{slots(1)})) != 0 {
		t.Error("Runs of nothing")
	}
	if r := pages.Runs(frees(1000)); !slices.Equal(r, []pages.Run{{At: 0, N: 1000}}) { // more than may be
		t.Error("Runs of 1000 free pages", r)
	}
	if at, ok := pages.First(row(some(500, 1), frees(100)), 100); at > 500 || !ok {
		t.Error("First of 600 pages", at, ok)
	}
}

// P19.2: numbers below 1, and beyond the longest run.
func TestFirstOfNumbers(t *testing.T) {
	l := row(frees(1), great(300, 1), frees(3), []pages.Page{slots(0)}, frees(2), great(121, 2), frees(3))
	for n, want := range map[int]int{1: 0, 2: 3, 3: 3} {
		if at, ok := pages.First(l, n); at != want || !ok {
			t.Errorf("First of %d: %d, %v", n, at, ok)
		}
	}
	for _, n := range append(far(), 0, -1, 4, 5, 12, 13, 14, 64) {
		for _, l := range [][]pages.Page{l, nil, {slots(0)}, frees(3)} {
			if at, ok := pages.First(l, n); at != 0 || ok {
				t.Errorf("First of %d: %d, %v", n, at, ok)
			}
		}
	}
}

// P19.2: a page that says that it is free, but has something else, is not Free.
func TestRunsOfBroken(t *testing.T) {
	for _, p := range []pages.Page{{Class: 1}, {Class: -1}, {Run: 1}, {Size: 1}, {Serial: 1}, {Run: math.MinInt}, {Size: math.MaxInt}, {Serial: math.MaxUint64}, {Kind: -1}, {Kind: 4}, {Kind: 256}} {
		l := row(frees(2), []pages.Page{p}, frees(3))
		held(t, l)
		if r := pages.Runs(l); !slices.Equal(r, []pages.Run{{At: 0, N: 2}, {At: 3, N: 3}}) {
			t.Errorf("%v among free ones: %v", p, r)
		}
		if at, ok := pages.First(l, 3); at != 3 || !ok {
			t.Errorf("%v among free ones: First is %d, %v", p, at, ok)
		}
	}
}
