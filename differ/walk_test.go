package differ

import (
	"slices"
	"testing"
)

// From above: the topmost level's place first, on each level from the left, down to the leaves; below what is alike nothing
// is looked at. No answer of Trees tells in which order that was done.
func TestWalk(t *testing.T) {
	for top := range 6 {
		var all, leaves []int
		for level := top; level >= 0; level-- {
			for i := range 1 << (top - level) {
				all = append(all, level, i)
			}
		}
		for i := range 1 << top {
			leaves = append(leaves, i)
		}
		walks(t, top, func(place) bool { return true }, all, leaves)
		walks(t, top, func(place) bool { return false }, []int{top, 0}, nil)
	}
	over := func(k int) func(place) bool { return func(p place) bool { return k>>p.level == p.i } }
	walks(t, 3, over(4), []int{3, 0, 2, 0, 2, 1, 1, 2, 1, 3, 0, 4, 0, 5}, []int{4})
	both := func(p place) bool { return over(2)(p) || over(7)(p) }
	walks(t, 3, both, []int{3, 0, 2, 0, 2, 1, 1, 0, 1, 1, 1, 2, 1, 3, 0, 2, 0, 3, 0, 6, 0, 7}, []int{2, 7})
}

// walks fails if a walk doesn't look at those places (level and number of each), and find those leaves.
func walks(t *testing.T, top int, unlike func(place) bool, want, leaves []int) {
	t.Helper()
	var seen []int
	l, n := walk(top, func(p place) bool {
		seen = append(seen, p.level, p.i)
		return unlike(p)
	})
	if !slices.Equal(seen, want) || 2*n != len(want) || !slices.Equal(l, leaves) {
		t.Errorf("%d places %v, leaves %v; not %v, %v", n, seen, l, want, leaves)
	}
}
