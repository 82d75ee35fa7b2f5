package prio_test

import (
	"cmp"
	"math/rand"
	"slices"
	"strings"
	"testing"

	"garderobe/prio"
)

func up(a, b int) bool { return a < b }

// pair is a thing that is alike to all of its key; its name tells them apart.
type pair struct {
	key  int
	name string
}

func (p pair) less(o pair) bool { return p.key < o.key }

// is fails if a call doesn't answer this thing.
func is[T comparable](t *testing.T, what string, got T, ok bool, want T) {
	t.Helper()
	if !ok || got != want {
		t.Fatalf("%s: %v, %v; not %v", what, got, ok, want)
	}
}

// empty fails if a queue tells of anything.
func empty[T comparable](t *testing.T, q *prio.Queue[T]) {
	t.Helper()
	var nothing T
	if x, ok := q.Pop(); ok || x != nothing {
		t.Fatalf("Pop of nothing: %v, %v", x, ok)
	}
	if x, ok := q.Peek(); ok || x != nothing {
		t.Fatalf("Peek at nothing: %v, %v", x, ok)
	}
	if l := q.All(); len(l) != 0 || q.Len() != 0 {
		t.Fatalf("all of nothing: %v, %d", l, q.Len())
	}
}

// holds fails if a queue doesn't tell just these things, one behind the other; they are taken out.
func holds[T comparable](t *testing.T, q *prio.Queue[T], want ...T) {
	t.Helper()
	if q.Len() != len(want) {
		t.Fatalf("%d things, not %d", q.Len(), len(want))
	}
	if got := q.All(); !slices.Equal(got, want) {
		t.Fatalf("all are %v, not %v", got, want)
	}
	empty(t, q)
}

// The chapter's example.
func TestExample(t *testing.T) {
	q := prio.New(up)
	q.Push(3, 1, 2)
	x, ok := q.Pop()
	is(t, "Pop", x, ok, 1)
	x, ok = q.Peek()
	is(t, "Peek", x, ok, 2)
	if q.Len() != 2 {
		t.Error("Len", q.Len())
	}
}

// P11.1: the least comes first, whichever order things are pushed in: all orders of a few.
func TestLeastComesFirst(t *testing.T) {
	for _, l := range orders([]int{1, 2, 3, 4, 5, 6}) {
		q := prio.New(up)
		q.Push(l...)
		for k := range 6 {
			x, ok := q.Pop()
			is(t, "Pop", x, ok, k+1)
			if q.Len() != 5-k {
				t.Fatalf("%d things behind %d pops", q.Len(), k+1)
			}
		}
		empty(t, q)
	}
}

// orders is all orders of a list.
func orders(l []int) [][]int {
	if len(l) == 0 {
		return [][]int{nil}
	}
	var all [][]int
	for k, x := range l {
		rest := slices.Delete(slices.Clone(l), k, k+1)
		for _, o := range orders(rest) {
			all = append(all, append([]int{x}, o...))
		}
	}
	return all
}

// P11.1: pushed at once, one by one, or in pieces, nothing among them.
func TestPushInPieces(t *testing.T) {
	l, want := []int{5, -1, 9, 0, 5, 3, -7, 3}, []int{-7, -1, 0, 3, 3, 5, 5, 9}
	for piece := 1; piece <= len(l); piece++ {
		q := prio.New(up)
		for part := range slices.Chunk(l, piece) {
			q.Push(part...)
			q.Push()
			q.Push(nil...)
		}
		holds(t, q, want...)
	}
}

// P11.1: other orders than that of numbers rising.
func TestOrderIsThatOfLess(t *testing.T) {
	down := prio.New(func(a, b int) bool { return a > b })
	down.Push(1, 3, 2, 3)
	holds(t, down, 3, 3, 2, 1)
	texts := prio.New(func(a, b string) bool { return a < b })
	texts.Push("b", "", "ab", "a", "B")
	holds(t, texts, "", "B", "a", "ab", "b")
	long := prio.New(func(a, b string) bool { return len(a) < len(b) })
	long.Push("ccc", "bb", "aaa", "", "aa", "b")
	holds(t, long, "", "b", "bb", "aa", "ccc", "aaa")
	structs := prio.New(pair.less)
	structs.Push(pair{2, "x"}, pair{1, "z"}, pair{2, "a"}, pair{1, "b"})
	holds(t, structs, pair{1, "z"}, pair{1, "b"}, pair{2, "x"}, pair{2, "a"})
	floats := prio.New(cmp.Less[float64])
	floats.Push(2.5, -1, 0.5)
	holds(t, floats, -1, 0.5, 2.5)
}

// P11.1: things of kinds that can be nothing: a thing of nought is one, too.
func TestThingsOfNought(t *testing.T) {
	q := prio.New(func(a, b *int) bool { return a == nil && b != nil })
	one := new(int)
	q.Push(one, nil, one, nil)
	x, ok := q.Peek()
	is(t, "Peek", x, ok, nil)
	holds(t, q, []*int{nil, nil, one, one}...)
	none := prio.New(func(a, b struct{}) bool { return false })
	none.Push(struct{}{}, struct{}{})
	holds(t, none, struct{}{}, struct{}{})
	zero := prio.New(up)
	zero.Push(0)
	y, ok := zero.Pop()
	is(t, "Pop", y, ok, 0)
	empty(t, zero)
	anything := prio.New(func(a, b any) bool { return a == nil && b != nil })
	anything.Push(1, "a", nil, pair{})
	holds(t, anything, []any{nil, 1, "a", pair{}}...)
}

// P11.1, P11.2: things that are all alike come as they were pushed, also behind pops and behind All.
func TestAlikeComeAsTheyWerePushed(t *testing.T) {
	for n := range 70 {
		q := prio.New(func(a, b int) bool { return false })
		next, out := 0, 0
		push := func(many int) {
			for range many {
				q.Push(next)
				next++
			}
		}
		push(n)
		for range n / 2 {
			x, ok := q.Pop()
			is(t, "Pop", x, ok, out)
			out++
		}
		push(n / 3)
		for _, x := range q.All() {
			is(t, "All", x, true, out)
			out++
		}
		push(5)
		holds(t, q, out, out+1, out+2, out+3, out+4)
	}
}

// P11.1: Peek tells what Pop tells then, however often, and changes nothing.
func TestPeekChangesNothing(t *testing.T) {
	q, r := prio.New(pair.less), rand.New(rand.NewSource(1))
	for k := range 200 {
		q.Push(pair{r.Intn(9), strings.Repeat("x", k)})
	}
	for n := 200; n > 0; n-- {
		one, ok := q.Peek()
		other, again := q.Peek()
		if !ok || !again || one != other || q.Len() != n {
			t.Fatalf("Peek: %v, %v, of %d", one, other, q.Len())
		}
		x, ok := q.Pop()
		is(t, "Pop", x, ok, one)
	}
	empty(t, q)
}

// P11.1: All leaves nothing, and the queue goes on.
func TestAllLeavesNothing(t *testing.T) {
	q := prio.New(up)
	for range 3 {
		empty(t, q)
		q.Push(2, 1, 2)
		holds(t, q, 1, 2, 2)
	}
}

// model is a queue as the words say: a row in which the least is looked for from the front on.
type model []pair

func (m *model) pop() pair {
	k := 0
	for i, x := range *m {
		if x.less((*m)[k]) {
			k = i
		}
	}
	out := (*m)[k]
	*m = slices.Delete(*m, k, k+1)
	return out
}

// P11.1, P11.2, against the words: pushes of several, pops and peeks between them; few keys, so that many are alike.
func TestQueueAgainstTheModel(t *testing.T) {
	for seed := range 300 {
		r := rand.New(rand.NewSource(int64(seed)))
		q, m, n := prio.New(pair.less), model{}, 0
		for range 120 {
			switch r.Intn(5) {
			case 0, 1:
				var l []pair
				for range r.Intn(6) {
					l = append(l, pair{r.Intn(1 + seed%12), string(rune('a' + n))})
					n++
				}
				q.Push(l...)
				m = append(m, l...)
			case 2, 3:
				if len(m) > 0 {
					want := m.pop()
					x, ok := q.Peek()
					is(t, "Peek", x, ok, want)
					x, ok = q.Pop()
					is(t, "Pop", x, ok, want)
				} else {
					empty(t, q)
				}
			}
			if q.Len() != len(m) {
				t.Fatalf("%d things, not %d", q.Len(), len(m))
			}
		}
		var rest []pair
		for len(m) > 0 {
			rest = append(rest, m.pop())
		}
		holds(t, q, rest...)
	}
}

// P11.2: many things, against a sort that leaves those that are alike as they came.
func TestManyThings(t *testing.T) {
	r := rand.New(rand.NewSource(3))
	q, want := prio.New(pair.less), make([]pair, 5000)
	for k := range want {
		want[k] = pair{r.Intn(300), string(rune(k))}
	}
	q.Push(want...)
	slices.SortStableFunc(want, func(a, b pair) int { return a.key - b.key })
	holds(t, q, want...)
}

// Rules 4 and 5: what is pushed is neither changed nor kept as a list, and what All answers is a copy.
func TestListsAreNeitherChangedNorKept(t *testing.T) {
	q, l := prio.New(up), append(make([]int, 0, 9), 3, 2, 1)
	q.Push(l...)
	if !slices.Equal(l[:5], []int{3, 2, 1, 0, 0}) {
		t.Fatal("a list that was handed in was changed", l[:5])
	}
	clear(l)
	q.Push(4)
	got := q.All()
	if !slices.Equal(got, []int{1, 2, 3, 4}) || !slices.Equal(l[:5], make([]int, 5)) {
		t.Fatal("a list that was handed in was kept", got, l[:5])
	}
	q.Push(7, 6, 5)
	_ = append(got[:0], 9, 9, 9, 9)
	holds(t, q, 5, 6, 7)
}

// Rule 6: queues of one order know nothing of each other.
func TestQueuesAreApart(t *testing.T) {
	one, other := prio.New(up), prio.New(up)
	one.Push(1)
	empty(t, other)
	other.Push(2)
	holds(t, one, 1)
	holds(t, other, 2)
}

// P1: nil queues, New of nil, and a queue that New did not make, with and without things.
func TestNil(t *testing.T) {
	if prio.New[int](nil) != nil || prio.New[pair](nil) != nil {
		t.Error("New of nil")
	}
	for _, q := range []*prio.Queue[int]{nil, prio.New[int](nil), {}} {
		empty(t, q)
		q.Push()
		q.Push(1, 2)
		empty(t, q)
	}
	var texts *prio.Queue[string]
	texts.Push("a")
	empty(t, texts)
}

// P1: what is no order leads to no panic and no end that doesn't come; all things are told, each once.
func TestWhatIsNoOrderEnds(t *testing.T) {
	r := rand.New(rand.NewSource(5))
	for _, less := range []func(a, b int) bool{
		func(a, b int) bool { return true },
		func(a, b int) bool { return a != b },
		func(a, b int) bool { return r.Intn(2) == 0 },
	} {
		q := prio.New(less)
		var want []int
		for k := range 50 {
			q.Push(k)
			want = append(want, k)
		}
		got := q.All()
		slices.Sort(got)
		if !slices.Equal(got, want) {
			t.Fatal("all are", got)
		}
		empty(t, q)
	}
}
