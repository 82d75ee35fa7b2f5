package tree_test

import (
	"bytes"
	"crypto/sha256"
	"encoding/binary"
	"math"
	"math/rand"
	"slices"
	"testing"

	"garderobe/api"
	"garderobe/book"
	"garderobe/sha"
	"garderobe/tree"
)

// sizes are how many leaves trees are tried with: all small ones, and those about powers of 2.
func sizes() []int {
	return []int{1, 2, 3, 4, 5, 6, 7, 8, 9, 15, 16, 17, 31, 32, 33, 84, 127, 128, 129, 511, 512, 513, 1023, 1024}
}

// beside are numbers that are none of a thing of which there are n.
func beside(n int) []int {
	return []int{-1, -2, -n, -1 << 31, math.MinInt, math.MinInt + 1, n, n + 1, 2 * n, n + 1<<16, n + 1<<32, 1 << 31, math.MaxInt - 1, math.MaxInt}
}

func newBook() *book.Book { return book.New(sha.Make()) }

// digests are n sums, others of each seed.
func digests(n int, seed int64) []api.Digest {
	r, l := rand.New(rand.NewSource(seed)), make([]api.Digest, n)
	for k := range l {
		r.Read(l[k][:])
	}
	return l
}

// low is a number's four bytes, the lowest first.
func low(n int) []byte { return binary.LittleEndian.AppendUint32(nil, uint32(n)) }

// text is the text of a kind and parts.
func text(kind byte, parts ...[]byte) []byte { return append([]byte{kind}, bytes.Join(parts, nil)...) }

// model is the levels of a tree's sums, from the leaves on, and the texts that were summed, the root's the last.
type model struct {
	levels [][]api.Digest
	texts  [][]byte
	root   api.Digest
}

// words is a tree by the words, with another SHA-256.
func words(l []api.Digest) model {
	row := slices.Clone(l)
	for len(row)&(len(row)-1) != 0 {
		row = append(row, api.Digest{})
	}
	m := model{levels: [][]api.Digest{row}}
	for level := 1; len(row) > 1; level++ {
		var next []api.Digest
		for i := range len(row) / 2 {
			m.texts = append(m.texts, text(1, []byte{byte(level)}, low(i), row[2*i][:], row[2*i+1][:]))
			next = append(next, sha256.Sum256(m.texts[len(m.texts)-1]))
		}
		row = next
		m.levels = append(m.levels, row)
	}
	m.texts = append(m.texts, text(2, low(len(l)), row[0][:]))
	m.root = sha256.Sum256(m.texts[len(m.texts)-1])
	return m
}

// made is a tree of leaves that there may be.
func made(t *testing.T, b *book.Book, l ...api.Digest) *tree.Tree {
	t.Helper()
	x, e := tree.New(b, l...)
	if e != api.OK || x == nil {
		t.Fatalf("New of %d leaves: %d", len(l), e)
	}
	return x
}

// stands fails if a tree isn't that of these leaves, by the words.
func stands(t *testing.T, x *tree.Tree, l []api.Digest) {
	t.Helper()
	m := words(l)
	if x.Len() != len(l) || x.Depth() != len(m.levels)-1 {
		t.Fatalf("%d leaves, depth %d; not %d, %d", x.Len(), x.Depth(), len(l), len(m.levels)-1)
	}
	for level, row := range m.levels {
		for i, want := range row {
			if x.Node(level, i) != want {
				t.Fatalf("sum %d of level %d of %d leaves", i, level, len(l))
			}
		}
	}
	for k, want := range m.levels[0] {
		if x.At(k) != want {
			t.Fatalf("leaf %d of %d", k, len(l))
		}
	}
	if x.Root() != m.root {
		t.Fatalf("the root of %d leaves is %x, not %x", len(l), x.Root(), m.root)
	}
}

// puts fails if Set doesn't answer that so many sums were reckoned anew.
func puts(t *testing.T, x *tree.Tree, want int, l ...tree.Leaf) {
	t.Helper()
	if n, e := x.Set(l...); e != api.OK || n != want {
		t.Fatalf("Set of %d in %d leaves: %d sums, error %d; not %d", len(l), x.Len(), n, e, want)
	}
}

// above is how many sums stand above some leaves, each counted once.
func above(n int, numbers ...int) int {
	type place struct{ level, i int }
	seen := map[place]bool{}
	for _, k := range numbers {
		for level := range depth(n) {
			k /= 2
			seen[place{level + 1, k}] = true
		}
	}
	return len(seen)
}

// depth is the least number whose power of 2 is not below n.
func depth(n int) int {
	d := 0
	for 1<<d < n {
		d++
	}
	return d
}

func noClash(t *testing.T, b *book.Book) {
	t.Helper()
	if _, _, ok := b.Clash(); ok {
		t.Error("a clash")
	}
}

// The chapter's example, and the same for two leaves, with the bytes spelt.
func TestExample(t *testing.T) {
	l := digests(2, 1)
	one := made(t, newBook(), l[0])
	if want := sha256.Sum256(append([]byte{2, 1, 0, 0, 0}, l[0][:]...)); one.Root() != want || one.Depth() != 0 {
		t.Errorf("one leaf: %x, depth %d", one.Root(), one.Depth())
	}
	two := made(t, newBook(), l...)
	pair := sha256.Sum256(slices.Concat([]byte{1, 1, 0, 0, 0, 0}, l[0][:], l[1][:]))
	if want := sha256.Sum256(append([]byte{2, 2, 0, 0, 0}, pair[:]...)); two.Root() != want || two.Node(1, 0) != pair {
		t.Errorf("two leaves: %x", two.Root())
	}
}

// P12.1
func TestNewIsByTheWords(t *testing.T) {
	for _, n := range sizes() {
		b, l := newBook(), digests(n, int64(n))
		stands(t, made(t, b, l...), l)
		noClash(t, b)
	}
	stands(t, made(t, newBook(), make([]api.Digest, 5)...), make([]api.Digest, 5))
	stands(t, made(t, newBook(), slices.Repeat(digests(1, 2), 6)...), slices.Repeat(digests(1, 2), 6))
	if tree.Most != 1024 {
		t.Error("Most", tree.Most)
	}
}

// P12.1, with the depths spelt.
func TestDepth(t *testing.T) {
	for n, want := range map[int]int{1: 0, 2: 1, 3: 2, 4: 2, 5: 3, 8: 3, 9: 4, 16: 4, 17: 5, 512: 9, 513: 10, 1023: 10, 1024: 10} {
		if got := made(t, newBook(), digests(n, 1)...).Depth(); got != want {
			t.Errorf("%d leaves: depth %d, not %d", n, got, want)
		}
	}
}

// P12.1, P1: ErrNil comes first.
func TestNewRefuses(t *testing.T) {
	for _, n := range []int{0, 1, 5, 1024, 1025, 1026, 2048, 1 << 16} {
		if x, e := tree.New(nil, digests(n, 1)...); e != api.ErrNil || x != nil {
			t.Errorf("no book, %d leaves: %d", n, e)
		}
		if n != 0 && n <= 1024 {
			continue
		}
		b := newBook()
		if x, e := tree.New(b, make([]api.Digest, n)...); e != api.ErrArg || x != nil || b.Len() != 0 {
			t.Errorf("%d leaves: %d, %d texts", n, e, b.Len())
		}
	}
	if x, e := tree.New(newBook(), nil...); e != api.ErrArg || x != nil {
		t.Error("a nil list", e)
	}
}

// P12.1: levels and numbers that there are not.
func TestWhatThereIsNot(t *testing.T) {
	for _, n := range []int{1, 2, 3, 5, 84, 1024} {
		x := made(t, newBook(), digests(n, 7)...)
		d := x.Depth()
		for level := range d + 1 {
			for _, i := range beside(1 << (d - level)) {
				if x.Node(level, i) != (api.Digest{}) {
					t.Errorf("%d leaves: sum %d of level %d", n, i, level)
				}
			}
		}
		for _, level := range beside(d + 1) {
			for _, i := range []int{0, 1, -1, 1 << d, math.MaxInt, math.MinInt} {
				if x.Node(level, i) != (api.Digest{}) {
					t.Errorf("%d leaves: sum %d of level %d", n, i, level)
				}
			}
		}
		for _, k := range beside(n) {
			if x.At(k) != (api.Digest{}) || len(x.Path(k)) != 0 {
				t.Errorf("%d leaves: leaf %d", n, k)
			}
		}
	}
}

// P12.1, P12.2, P12.6: all that is summed is summed by the book, which keeps it; nothing else is.
func TestTextsAreTheBooks(t *testing.T) {
	for _, n := range []int{1, 2, 3, 5, 16, 17, 1000} {
		b, l := newBook(), digests(n, 9)
		x := made(t, b, l...)
		x.Root()
		keeps(t, b, words(l))
		if n < 2 {
			continue
		}
		was := b.Len()
		l[n-1], l[0] = api.Digest{1}, api.Digest{2}
		puts(t, x, above(n, 0, n-1), tree.Leaf{K: 0, Sum: l[0]}, tree.Leaf{K: n - 1, Sum: l[n-1]})
		x.Root()
		if got := b.Len() - was; got != above(n, 0, n-1)+1 {
			t.Errorf("%d leaves: Set sums %d texts, not %d", n, got, above(n, 0, n-1)+1)
		}
		noClash(t, b)
	}
}

// keeps fails if a book has other texts than a tree's.
func keeps(t *testing.T, b *book.Book, m model) {
	t.Helper()
	if b.Len() != len(m.texts) {
		t.Errorf("%d texts, not %d", b.Len(), len(m.texts))
	}
	for _, s := range m.texts {
		b.Sum(s[0], s[1:])
	}
	if b.Len() != len(m.texts) {
		t.Errorf("%d texts with those by the words, not %d", b.Len(), len(m.texts))
	}
}

// P12.2, P12.4: each leaf alone, in trees of all small sizes, and some in great ones.
func TestSetOfOneLeaf(t *testing.T) {
	for _, n := range sizes() {
		l := digests(n, 3)
		x := made(t, newBook(), l...)
		for _, k := range []int{0, 1, 2, 3, 4, 5, 6, 7, n / 2, n - 2, n - 1} {
			if k < 0 || k >= n {
				continue
			}
			l[k] = digests(1, int64(100+k))[0]
			puts(t, x, x.Depth(), tree.Leaf{K: k, Sum: l[k]})
			stands(t, x, l)
		}
	}
}

// P12.2: no leaf is none above; a leaf that stays as it was counts as any other.
func TestSetOfNothingAndOfTheSame(t *testing.T) {
	for _, n := range []int{1, 2, 5, 64} {
		l := digests(n, 4)
		x := made(t, newBook(), l...)
		puts(t, x, 0)
		puts(t, x, 0, nil...)
		puts(t, x, x.Depth(), tree.Leaf{K: n - 1, Sum: l[n-1]})
		puts(t, x, x.Depth(), tree.Leaf{K: n - 1, Sum: l[n-1]}, tree.Leaf{K: n - 1, Sum: l[n-1]})
		stands(t, x, l)
	}
}

// P12.2, with the counts spelt: of eight leaves, what stands above several is counted once.
func TestSetCountsEachSumOnce(t *testing.T) {
	rows := []struct {
		numbers []int
		want    int
	}{
		{[]int{0}, 3}, {[]int{7}, 3}, {[]int{0, 1}, 3}, {[]int{1, 0}, 3}, {[]int{0, 2}, 4}, {[]int{2, 1}, 4}, {[]int{0, 4}, 5},
		{[]int{7, 0}, 5}, {[]int{0, 2, 4}, 6}, {[]int{0, 2, 4, 6}, 7}, {[]int{6, 4, 2, 0}, 7}, {[]int{3, 3, 3}, 3},
		{[]int{3, 2, 3, 2}, 3}, {[]int{0, 1, 2, 3, 4, 5, 6, 7}, 7}, {[]int{7, 6, 5, 4, 3, 2, 1, 0, 7, 0}, 7}, {[]int{5, 1, 5}, 5},
	}
	for _, r := range rows {
		l := digests(8, 5)
		x := made(t, newBook(), l...)
		var set []tree.Leaf
		for j, k := range r.numbers {
			l[k] = api.Digest{byte(j + 1)}
			set = append(set, tree.Leaf{K: k, Sum: l[k]})
		}
		puts(t, x, r.want, set...)
		stands(t, x, l)
	}
}

// P12.2: of one number the last one, wherever it stands.
func TestSetTakesTheLastOfANumber(t *testing.T) {
	l, new := digests(5, 6), digests(3, 7)
	x := made(t, newBook(), l...)
	puts(t, x, 5, tree.Leaf{K: 4, Sum: new[0]}, tree.Leaf{K: 1, Sum: new[1]}, tree.Leaf{K: 4, Sum: new[2]})
	l[4], l[1] = new[2], new[1]
	stands(t, x, l)
	puts(t, x, 3, tree.Leaf{K: 1, Sum: new[2]}, tree.Leaf{K: 1, Sum: new[0]}, tree.Leaf{K: 1, Sum: l[1]})
	stands(t, x, l)
}

// P12.2, rule 3: one number that there isn't, wherever it stands, and nothing is done.
func TestSetRefuses(t *testing.T) {
	for _, n := range []int{1, 3, 5, 8, 1024} {
		b, l := newBook(), digests(n, 8)
		x := made(t, b, l...)
		stands(t, x, l)
		texts, good := b.Len(), tree.Leaf{K: n - 1, Sum: api.Digest{1}}
		for _, k := range beside(n) {
			bad := tree.Leaf{K: k, Sum: api.Digest{2}}
			for _, set := range [][]tree.Leaf{{bad}, {good, bad}, {bad, good}, {good, bad, good}, {bad, bad}} {
				if got, e := x.Set(set...); e != api.ErrRange || got != 0 {
					t.Fatalf("Set of leaf %d of %d: %d, %d", k, n, got, e)
				}
			}
		}
		if b.Len() != texts {
			t.Errorf("%d leaves: something was summed", n)
		}
		stands(t, x, l)
	}
}

// P12.2, P12.4, against the words: several leaves at once, some of them twice, over and over.
func TestSetAgainstTheWords(t *testing.T) {
	for seed := range 120 {
		r := rand.New(rand.NewSource(int64(seed)))
		n := 1 + r.Intn(40)
		b, l := newBook(), digests(n, int64(seed))
		x := made(t, b, l...)
		for range 8 {
			var set []tree.Leaf
			var numbers []int
			for range r.Intn(7) {
				k := r.Intn(n)
				r.Read(l[k][:])
				set, numbers = append(set, tree.Leaf{K: k, Sum: l[k]}), append(numbers, k)
			}
			puts(t, x, above(n, numbers...), set...)
			stands(t, x, l)
			if x.Root() != made(t, b, l...).Root() {
				t.Fatal("the root of a tree that was made of these leaves")
			}
		}
		noClash(t, b)
	}
}

// P12.2: all leaves at once, many times each.
func TestSetOfVeryMany(t *testing.T) {
	l := digests(1000, 1)
	x := made(t, newBook(), make([]api.Digest, 1000)...)
	var set []tree.Leaf
	for range 20 {
		for k := range l {
			set = append(set, tree.Leaf{K: k, Sum: api.Digest{3}})
		}
	}
	for k := range l {
		set = append(set, tree.Leaf{K: len(l) - 1 - k, Sum: l[len(l)-1-k]})
	}
	puts(t, x, above(1000, numbers(1000)...), set...)
	stands(t, x, l)
}

// numbers are those from 0 on.
func numbers(n int) []int {
	var l []int
	for k := range n {
		l = append(l, k)
	}
	return l
}

// P12.1: a copy stands alike, and neither sees what is set in the other one; they have the book in common.
func TestCopy(t *testing.T) {
	for _, n := range []int{1, 2, 5, 64, 1023} {
		b, l := newBook(), digests(n, 10)
		x := made(t, b, l...)
		y := x.Copy()
		if y == x {
			t.Fatal("a copy is the tree itself")
		}
		stands(t, y, l)
		other := slices.Clone(l)
		other[n-1] = api.Digest{1}
		texts := b.Len()
		puts(t, y, y.Depth(), tree.Leaf{K: n - 1, Sum: other[n-1]})
		stands(t, x, l)
		stands(t, y, other)
		if b.Len() == texts {
			t.Error("the copy sums with another book")
		}
		l[0] = api.Digest{2}
		puts(t, x, x.Depth(), tree.Leaf{K: 0, Sum: l[0]})
		stands(t, x, l)
		stands(t, y, other)
		stands(t, y.Copy(), other)
	}
}

// P12.3, P12.5: each leaf's path is by the words, and leads up to the root.
func TestPathsLeadToTheRoot(t *testing.T) {
	for _, n := range sizes() {
		b, l := newBook(), digests(n, 11)
		x, m := made(t, b, l...), words(l)
		for k := range n {
			path := x.Path(k)
			if len(path) != len(m.levels)-1 {
				t.Fatalf("leaf %d of %d: a path of %d", k, n, len(path))
			}
			for level, got := range path {
				i := k >> level
				if want := m.levels[level][i+1-2*(i%2)]; got != want {
					t.Fatalf("leaf %d of %d: level %d of the path", k, n, level)
				}
			}
			if got, e := tree.Up(b, n, k, l[k], path); e != api.OK || got != m.root {
				t.Fatalf("Up of leaf %d of %d: %x, %d", k, n, got, e)
			}
		}
		noClash(t, b)
	}
}

// P12.3: a path behind a Set is that of the leaves as they are then.
func TestPathBehindSet(t *testing.T) {
	b, l := newBook(), digests(6, 12)
	x := made(t, b, l...)
	old := x.Path(2)
	l[3] = api.Digest{9}
	puts(t, x, 3, tree.Leaf{K: 3, Sum: l[3]})
	if up, e := tree.Up(b, 6, 2, l[2], x.Path(2)); e != api.OK || up != words(l).root {
		t.Error("the new path", e)
	}
	if up, e := tree.Up(b, 6, 2, l[2], old); e != api.OK || up == words(l).root {
		t.Error("the old path", e)
	}
}

// P12.3, P12.6: any other leaf, number, sum of the path or number of leaves leads to another root.
func TestOnlyTheLeafItselfLeadsToTheRoot(t *testing.T) {
	const n = 13
	b, l := newBook(), digests(n, 13)
	x := made(t, b, l...)
	root := x.Root()
	other := func(n, k int, leaf api.Digest, path []api.Digest) {
		t.Helper()
		if up, e := tree.Up(b, n, k, leaf, path); e != api.OK || up == root {
			t.Errorf("leaf %d of %d: %d, %v", k, n, e, up == root)
		}
	}
	for k := range n {
		path := x.Path(k)
		for j := range n {
			if j != k {
				other(n, j, l[k], path)
				other(n, k, l[j], path)
			}
		}
		for m := 9; m <= 16; m++ { // as deep as thirteen
			if m != n && k < m {
				other(m, k, l[k], path)
			}
		}
		for level := range path {
			wrong := slices.Clone(path)
			wrong[level][31-level] ^= 1
			other(n, k, l[k], wrong)
		}
	}
	noClash(t, b)
}

// P12.3: what Up answers for a leaf and a path that no tree had is by the words.
func TestUpOfAnyPath(t *testing.T) {
	for _, n := range sizes() {
		b := newBook()
		path := digests(depth(n), 14)
		for _, k := range []int{0, n / 3, n - 1} {
			want := digests(1, 15)[0]
			for level, p := range path {
				i := k >> level
				pair := slices.Concat(want[:], p[:])
				if i%2 == 1 {
					pair = slices.Concat(p[:], want[:])
				}
				want = sha256.Sum256(text(1, []byte{byte(level + 1)}, low(i/2), pair))
			}
			want = sha256.Sum256(text(2, low(n), want[:]))
			if got, e := tree.Up(b, n, k, digests(1, 15)[0], path); e != api.OK || got != want {
				t.Fatalf("leaf %d of %d: %d", k, n, e)
			}
		}
	}
}

// P12.3, P1: wrong n and k, and paths that are too short or too long; nothing is summed.
func TestUpRefuses(t *testing.T) {
	b, leaf := newBook(), digests(1, 16)[0]
	refuses := func(n, k, size int) {
		t.Helper()
		if up, e := tree.Up(b, n, k, leaf, make([]api.Digest, size)); e != api.ErrArg || up != (api.Digest{}) {
			t.Errorf("leaf %d of %d, a path of %d: %d, %x", k, n, size, e, up)
		}
	}
	for _, n := range []int{0, -1, -8, math.MinInt, math.MinInt + 1, 1025, 1026, 2048, 1 << 32, 1<<32 + 4, math.MaxInt} {
		for _, size := range []int{0, 1, 2, 10, 11, 12, 32, 63, 64} {
			for _, k := range []int{-1, 0, 1, n - 1, n} {
				refuses(n, k, size)
			}
		}
	}
	for _, n := range sizes() {
		for size := range depth(n) + 5 {
			if size != depth(n) {
				refuses(n, 0, size)
				refuses(n, n-1, size)
			}
		}
		for _, k := range beside(n) {
			refuses(n, k, depth(n))
		}
	}
	if up, e := tree.Up(b, 2, 0, leaf, nil); e != api.ErrArg || up != (api.Digest{}) {
		t.Error("a nil path", e)
	}
	if b.Len() != 0 {
		t.Error("something was summed")
	}
	if up, e := tree.Up(b, 1, 0, leaf, nil); e != api.OK || up != words([]api.Digest{leaf}).root {
		t.Error("a nil path of one leaf", e)
	}
}

// P12.3: the sum of a block is the book's own of its number and its bytes, whatever they are.
func TestSum(t *testing.T) {
	b := newBook()
	for _, k := range []int{0, 1, 2, 255, 256, 65535, 65536, 1<<24 + 1, math.MaxInt32, -1, -2, 1<<32 - 1, 1 << 32, 1<<32 + 7, math.MaxInt, math.MinInt} {
		for _, size := range []int{0, 1, 31, 64, 256, 300, 5000} {
			data := bytes.Repeat([]byte{byte(size), 7, 0}, size)[:size]
			want := api.Digest(sha256.Sum256(text(0, low(k), data)))
			if got := tree.Sum(b, k, data); got != want || b.Sum(book.Leaf, low(k), data) != want {
				t.Fatalf("block %d, %d bytes: %x", k, size, got)
			}
		}
	}
	if tree.Sum(b, 5, nil) != sha256.Sum256([]byte{0, 5, 0, 0, 0}) {
		t.Error("a nil list")
	}
	noClash(t, b)
}

// P12.3: what is summed as a block is kept by the book, once.
func TestSumIsKept(t *testing.T) {
	b := newBook()
	tree.Sum(b, 1, []byte("a"))
	tree.Sum(b, 1, []byte("a"))
	b.Sum(book.Leaf, []byte{1, 0, 0, 0, 'a'})
	if b.Len() != 1 {
		t.Error(b.Len())
	}
	tree.Sum(b, 2, []byte("a"))
	if b.Len() != 2 {
		t.Error(b.Len())
	}
}

// P12.6: trees of unlike leaves, of like ones in another order, and of more or fewer noughts have unlike roots.
func TestUnlikeLeavesHaveUnlikeRoots(t *testing.T) {
	b, roots, n := newBook(), map[api.Digest]bool{}, 0
	see := func(l ...api.Digest) {
		roots[made(t, b, l...).Root()] = true
		n++
	}
	for many := range 20 {
		l := digests(many+1, 17)
		see(l...)
		see(make([]api.Digest, many+1)...)
		see(append(l, api.Digest{})...)
		l[many][0] ^= 1
		see(l...)
		if many > 0 {
			l[0], l[many] = l[many], l[0]
			see(l...)
		}
		l[0] = made(t, b, l...).Root()
		see(l...)
	}
	for _, k := range []int{1, 3, 4} {
		l := digests(5, 18)
		l[k] = api.Digest{}
		see(l[:k]...)
		see(l...)
	}
	if len(roots) != n {
		t.Errorf("%d trees have %d roots", n, len(roots))
	}
	noClash(t, b)
}

// Rules 4 and 5: lists that are handed in are neither changed nor kept, and answers share no memory.
func TestListsAreNeitherChangedNorKept(t *testing.T) {
	l := digests(5, 19)
	in := append(make([]api.Digest, 0, 16), l...)
	x := made(t, newBook(), in...)
	if !slices.Equal(in[:16], append(slices.Clone(l), make([]api.Digest, 11)...)) {
		t.Fatal("leaves that were handed in were changed")
	}
	clear(in)
	stands(t, x, l)
	set := append(make([]tree.Leaf, 0, 8), tree.Leaf{K: 4, Sum: api.Digest{5}}, tree.Leaf{K: 0, Sum: api.Digest{6}}, tree.Leaf{K: 4, Sum: api.Digest{7}})
	was := slices.Clone(set[:8])
	puts(t, x, 5, set...)
	if !slices.Equal(set[:8], was) {
		t.Fatal("what was set was changed")
	}
	l[0], l[4] = api.Digest{6}, api.Digest{7}
	clear(set)
	stands(t, x, l)
	path := x.Path(1)
	clear(path)
	_ = append(path[:0], l...)
	stands(t, x, l)
	path = x.Path(1)
	kept := slices.Clone(path)
	if up, e := tree.Up(newBook(), 5, 1, l[1], path); e != api.OK || up != x.Root() || !slices.Equal(path, kept) {
		t.Fatal("a path that was handed in was changed", e)
	}
	data := append(make([]byte, 0, 9), "abc"...)
	tree.Sum(newBook(), 1, data)
	if string(data[:9]) != "abc\x00\x00\x00\x00\x00\x00" {
		t.Fatal("a block that was handed in was changed")
	}
}

// Rule 6: trees of one book know nothing of each other, and asking changes nothing.
func TestTreesAreApart(t *testing.T) {
	b, l := newBook(), digests(9, 20)
	x, y := made(t, b, l...), made(t, b, l...)
	puts(t, x, 4, tree.Leaf{K: 3})
	stands(t, y, l)
	for range 3 {
		texts := b.Len()
		y.Len()
		y.At(1)
		y.Node(2, 1)
		y.Depth()
		y.Path(8)
		y.Copy()
		y.Root()
		if b.Len() != texts {
			t.Fatal("asking sums something anew")
		}
		stands(t, y, l)
	}
}

// P12.1, P12.4: a book that is full, or has no table, sums on as layer 4 says.
func TestBooksOfAllKinds(t *testing.T) {
	b := newBook()
	for k := range book.Most {
		b.Sum(book.Note, low(k))
	}
	l := digests(7, 21)
	x := made(t, b, l...)
	l[2] = api.Digest{1}
	puts(t, x, 3, tree.Leaf{K: 2, Sum: l[2]})
	stands(t, x, l)
	blank := made(t, &book.Book{}, l...)
	if blank.Root() != (api.Digest{}) || blank.Node(1, 0) != (api.Digest{}) || blank.At(2) != l[2] || blank.Depth() != 3 {
		t.Error("a book of no table")
	}
}

// P1: nil trees, a tree that New did not make, and nil books.
func TestNil(t *testing.T) {
	for _, x := range []*tree.Tree{nil, {}} {
		for _, k := range append(beside(1), 0, 1, 5) {
			if x.At(k) != (api.Digest{}) || x.Node(k, 0) != (api.Digest{}) || x.Node(0, k) != (api.Digest{}) || len(x.Path(k)) != 0 {
				t.Error("sums of a nil tree", k)
			}
			if n, e := x.Set(tree.Leaf{K: k}); n != 0 || e != api.ErrNil {
				t.Error("Set in a nil tree", n, e)
			}
		}
		if n, e := x.Set(); n != 0 || e != api.ErrNil {
			t.Error("Set of nothing in a nil tree", n, e)
		}
		if x.Root() != (api.Digest{}) || x.Len() != 0 || x.Depth() != 0 || x.Copy() != nil {
			t.Error("a nil tree")
		}
	}
	if tree.Sum(nil, 3, []byte("a")) != (api.Digest{}) {
		t.Error("Sum of a nil book")
	}
	if up, e := tree.Up(nil, 1, 0, api.Digest{1}, nil); e != api.OK || up != (api.Digest{}) {
		t.Error("Up of a nil book", e)
	}
	if up, e := tree.Up(nil, 1025, 0, api.Digest{1}, nil); e != api.ErrArg || up != (api.Digest{}) {
		t.Error("Up of a nil book, with too many leaves", e)
	}
}
