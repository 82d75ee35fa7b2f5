package differ_test

import (
	"math/rand/v2"
	"slices"
	"testing"

	"garderobe/api"
	"garderobe/book"
	"garderobe/differ"
	"garderobe/tree"
)

// compares fails if Trees doesn't answer those leaves, and so many pairs, either way about.
func compares(t *testing.T, what string, a, b *tree.Tree, want []int, pairs int) {
	t.Helper()
	for _, x := range [][2]*tree.Tree{{a, b}, {b, a}} {
		if l, n, e := differ.Trees(x[0], x[1]); e != api.OK || n != pairs || !slices.Equal(l, want) {
			t.Errorf("%s: Trees of %d leaves: %v, %d pairs, error %d; not %v, %d", what, a.Len(), l, n, e, want, pairs)
		}
	}
}

// denied fails if Trees doesn't answer e, and nothing.
func denied(t *testing.T, what string, a, b *tree.Tree, e api.Errno) {
	t.Helper()
	for _, x := range [][2]*tree.Tree{{a, b}, {b, a}} {
		if l, n, got := differ.Trees(x[0], x[1]); got != e || n != 0 || len(l) != 0 {
			t.Errorf("%s: Trees %v, %d pairs, error %d, not %d", what, l, n, got, e)
		}
	}
}

// changed are leaves of which those of some numbers are others.
func changed(l []api.Digest, numbers ...int) []api.Digest {
	l = slices.Clone(l)
	for _, k := range numbers {
		l[k][(k*5)%32] ^= 1 << (k % 8)
	}
	return l
}

// Example 1.
func TestExample(t *testing.T) {
	l := digests(1, 5)
	compares(t, "the example", planted(t, l), planted(t, changed(l, 4)), []int{4}, 7)
}

// P34.1, with how many pairs spelt.
func TestTreesSpelt(t *testing.T) {
	for _, x := range []struct {
		n       int
		numbers []int
		pairs   int
	}{
		{1, nil, 1}, {1, []int{0}, 1},
		{2, nil, 1}, {2, []int{0}, 3}, {2, []int{1}, 3}, {2, []int{0, 1}, 3},
		{3, []int{2}, 5}, {3, []int{0, 2}, 7}, {3, []int{0, 1, 2}, 7},
		{5, nil, 1}, {5, []int{0}, 7}, {5, []int{3}, 7}, {5, []int{0, 1}, 7}, {5, []int{0, 2}, 9}, {5, []int{0, 4}, 11}, {5, []int{0, 1, 2, 3, 4}, 13},
		{8, []int{7}, 7}, {8, []int{0, 1, 2, 3, 4, 5, 6, 7}, 15}, {1024, []int{511}, 21}, {1024, []int{511, 512}, 39},
	} {
		l := digests(2, x.n)
		compares(t, "spelt", planted(t, l), planted(t, changed(l, x.numbers...)), x.numbers, x.pairs)
	}
}

// P34.1: of nil trees, ahead of all else; one that no call made is one.
func TestTreesNil(t *testing.T) {
	for _, none := range []*tree.Tree{nil, {}} {
		for _, n := range []int{1, 2, 5, 1024} {
			denied(t, "one is nil", planted(t, digests(1, n)), none, api.ErrNil)
		}
		denied(t, "both are nil", none, nil, api.ErrNil)
		denied(t, "both are nil", none, &tree.Tree{}, api.ErrNil)
	}
}

// P34.1: of unlike numbers of leaves, also of those that are as deep, and of those whose other leaves are noughts.
func TestTreesNumbers(t *testing.T) {
	sizes := []int{1, 2, 3, 4, 5, 6, 7, 8, 9, 16, 17, 1023, 1024}
	for _, n := range sizes {
		for _, m := range sizes {
			if n == m {
				continue
			}
			denied(t, "other numbers", planted(t, digests(1, n)), planted(t, digests(1, m)), api.ErrArg)
			denied(t, "noughts", planted(t, make([]api.Digest, n)), planted(t, make([]api.Digest, m)), api.ErrArg)
		}
	}
}

// P34.1: all choices of unlike leaves among a few.
func TestTreesFew(t *testing.T) {
	for n := 1; n <= 9; n++ {
		l := digests(3, n)
		a := planted(t, l)
		for set := range 1 << n {
			var numbers []int
			for k := range n {
				if set>>k&1 == 1 {
					numbers = append(numbers, k)
				}
			}
			m := changed(l, numbers...)
			want, pairs := words(l, m)
			if !slices.Equal(want, numbers) {
				t.Fatal("the words")
			}
			compares(t, "a few", a, planted(t, m), want, pairs)
		}
	}
}

// P34.1: many leaves, of which none, one, some and all are unlike.
func TestTreesMany(t *testing.T) {
	r := rand.New(rand.NewPCG(1, 34))
	for _, n := range []int{10, 16, 31, 73, 128, 500, 1023, 1024} {
		l := digests(uint64(n), n)
		a := planted(t, l)
		for _, many := range []int{0, 1, 2, 3, n / 3, n} {
			numbers := r.Perm(n)[:many]
			m := changed(l, numbers...)
			want, pairs := words(l, m)
			compares(t, "many", a, planted(t, m), want, pairs)
		}
		compares(t, "the last one", a, planted(t, changed(l, n-1)), []int{n - 1}, 1+2*a.Depth())
	}
}

// P34.1: leaves that are noughts count, those behind them don't.
func TestTreesNoughts(t *testing.T) {
	for _, n := range []int{1, 3, 5, 6, 9} {
		l, zero := digests(4, n), make([]api.Digest, n)
		want, pairs := words(l, zero)
		if len(want) != n {
			t.Fatal("the words")
		}
		compares(t, "noughts", planted(t, l), planted(t, zero), want, pairs)
		compares(t, "noughts alike", planted(t, zero), planted(t, zero), nil, 1)
		zero = slices.Clone(l)
		zero[n-1] = api.Digest{}
		want, pairs = words(l, zero)
		compares(t, "one of noughts", planted(t, l), planted(t, zero), want, pairs)
		if !slices.Equal(want, []int{n - 1}) {
			t.Error(want)
		}
	}
}

// P34.1, P34.3: one tree with itself, with its copy, with one whose leaves were set; of one book, and of two.
func TestTreesSet(t *testing.T) {
	r, b := rand.New(rand.NewPCG(2, 34)), newBook()
	for _, n := range []int{1, 2, 5, 40} {
		l := digests(5, n)
		a, _ := tree.New(b, l...)
		compares(t, "with itself", a, a, nil, 1)
		c := a.Copy()
		compares(t, "with its copy", a, c, nil, 1)
		m := slices.Clone(l)
		for range 10 {
			k := r.IntN(n)
			m[k] = api.Digest(text(r.Uint64(), 32))
			c.Set(tree.Leaf{K: k, Sum: m[k]})
			want, pairs := words(l, m)
			compares(t, "set", a, c, want, pairs)
			compares(t, "another book", planted(t, l), c, want, pairs)
			for k := range n {
				if slices.Contains(want, k) == (a.At(k) == c.At(k)) {
					t.Error("leaf", k)
				}
			}
		}
		c.Set(setters(l)...)
		compares(t, "set back", a, c, nil, 1)
	}
	if _, _, clash := b.Clash(); clash {
		t.Error("a clash")
	}
}

// setters are all leaves, each with its number.
func setters(l []api.Digest) []tree.Leaf {
	var out []tree.Leaf
	for k, d := range l {
		out = append(out, tree.Leaf{K: k, Sum: d})
	}
	return out
}

// P34.1: sums are held against one another from above: trees whose topmost sums are noughts, since no call made their
// book, are alike; with another one all below is looked at.
func TestTreesOfNoBook(t *testing.T) {
	l := digests(6, 5)
	a, e := tree.New(&book.Book{}, l...)
	b, f := tree.New(&book.Book{}, changed(l, 0, 3)...)
	if e != api.OK || f != api.OK {
		t.Fatal("New", e, f)
	}
	compares(t, "no book", a, b, nil, 1)
	compares(t, "no book, and one", a, planted(t, l), nil, 15)
	compares(t, "no book, and one", a, planted(t, changed(l, 2)), []int{2}, 15)
}

// Rules 3 to 6: nothing is summed, nothing changed, and what is answered shares memory with nothing.
func TestTreesOwn(t *testing.T) {
	b, l := newBook(), digests(7, 6)
	m := changed(l, 1, 2, 5)
	x, _ := tree.New(b, l...)
	y, _ := tree.New(b, m...)
	was, texts := [2]api.Digest{x.Root(), y.Root()}, b.Len()
	one, _, _ := differ.Trees(x, y)
	two, _, _ := differ.Trees(x, y)
	for k := range one[:cap(one)] {
		one[:cap(one)][k] = -7
	}
	_ = append(one, 1, 2, 3)
	if !slices.Equal(two, []int{1, 2, 5}) {
		t.Error("shared", two)
	}
	compares(t, "again", x, y, []int{1, 2, 5}, 13)
	if b.Len() != texts || was != [2]api.Digest{x.Root(), y.Root()} {
		t.Error("something was summed, or changed")
	}
	for k := range l {
		if x.At(k) != l[k] || y.At(k) != m[k] {
			t.Error("leaf", k)
		}
	}
}
