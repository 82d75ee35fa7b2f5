package geom_test

import (
	"math"
	"testing"

	"garderobe/api"
	"garderobe/geom"
)

// Kinds of blocks, as the chapter numbers them.
const (
	none   = 0
	super  = 1
	epoch  = 2
	sealed = 3
	log    = 4
)

// far are numbers that no block, page or limit has.
func far() []int {
	return []int{math.MinInt, math.MinInt + 1, math.MinInt32, -1 << 16, -256, -65, -2, -1,
		1 << 16, 1<<31 - 1, 1 << 31, 1 << 32, 1<<32 + 1, 1 << 56, 1 << 62, math.MaxInt - 1, math.MaxInt}
}

// near are numbers at the ends of all that a geometry has, and beyond.
func near() []int {
	var l []int
	for k := range 140 {
		l = append(l, k)
	}
	return append(l, far()...)
}

// goods are all geometries that may be.
func goods() []api.Geo {
	var l []api.Geo
	for pages := 1; pages <= 64; pages++ {
		for tx := 4; tx <= 24; tx++ {
			l = append(l, api.Geo{Pages: pages, Tx: tx})
		}
	}
	return l
}

// bads are geometries that may not be: by their pages, by their blocks, by both.
func bads() []api.Geo {
	pages := append(far(), 0, 65, 66, 128)
	txs := append(far(), 0, 1, 2, 3, 25, 26, 48)
	var l []api.Geo
	for _, p := range append([]int{1, 20, 64}, pages...) {
		for _, t := range txs {
			l = append(l, api.Geo{Pages: p, Tx: t})
		}
	}
	for _, p := range pages {
		for _, t := range []int{4, 10, 24} {
			l = append(l, api.Geo{Pages: p, Tx: t})
		}
	}
	return l
}

// device is what each block on the device is, laid out by the words, with the sealed block that page 0 has.
func device(g api.Geo) (blocks []geom.Part, page0 int) {
	count := 1 // the head
	for from := 0; from < g.Pages; from += 16 {
		count++
	}
	page0 = count
	count += g.Pages
	blocks = append(blocks, geom.Part{Kind: super, K: 0})
	for k := 0; 32*k < count; k++ {
		blocks = append(blocks, geom.Part{Kind: epoch, K: k})
	}
	for k := range count {
		blocks = append(blocks, geom.Part{Kind: sealed, K: k})
	}
	for k := range g.Tx + 1 {
		blocks = append(blocks, geom.Part{Kind: log, K: k})
	}
	return blocks, page0
}

// counts are what a geometry tells of itself.
type counts struct{ maps, sealed, epochs, leaves, total int }

func countsOf(g api.Geo) counts {
	return counts{geom.Maps(g), geom.Sealed(g), geom.Epochs(g), geom.Leaves(g), geom.Total(g)}
}

// P7.1
func TestCheckTellsWhichMayBe(t *testing.T) {
	if len(goods()) != 64*21 {
		t.Fatal(len(goods()))
	}
	for _, g := range goods() {
		if e := geom.Check(g); e != api.OK {
			t.Errorf("%v: %d", g, e)
		}
	}
	for _, g := range append(bads(), api.Geo{}) {
		if e := geom.Check(g); e != api.ErrArg {
			t.Errorf("%v: %d", g, e)
		}
	}
}

// P7.1: the example, and geometries at whose ends one more block is needed.
func TestKnownCounts(t *testing.T) {
	rows := []struct {
		g    api.Geo
		want counts
	}{
		{api.Geo{Pages: 20, Tx: 4}, counts{2, 23, 1, 25, 30}},
		{api.Geo{Pages: 1, Tx: 4}, counts{1, 3, 1, 5, 10}},
		{api.Geo{Pages: 16, Tx: 5}, counts{1, 18, 1, 20, 26}},
		{api.Geo{Pages: 17, Tx: 5}, counts{2, 20, 1, 22, 28}},
		{api.Geo{Pages: 29, Tx: 6}, counts{2, 32, 1, 34, 41}},
		{api.Geo{Pages: 30, Tx: 6}, counts{2, 33, 2, 36, 43}},
		{api.Geo{Pages: 32, Tx: 8}, counts{2, 35, 2, 38, 47}},
		{api.Geo{Pages: 33, Tx: 8}, counts{3, 37, 2, 40, 49}},
		{api.Geo{Pages: 48, Tx: 8}, counts{3, 52, 2, 55, 64}},
		{api.Geo{Pages: 49, Tx: 8}, counts{4, 54, 2, 57, 66}},
		{api.Geo{Pages: 59, Tx: 23}, counts{4, 64, 2, 67, 91}},
		{api.Geo{Pages: 60, Tx: 23}, counts{4, 65, 3, 69, 93}},
		{api.Geo{Pages: 64, Tx: 24}, counts{4, 69, 3, 73, 98}},
	}
	for _, r := range rows {
		if got := countsOf(r.g); got != r.want {
			t.Errorf("%v: %v, not %v", r.g, got, r.want)
		}
	}
}

// P7.1
func TestCountsOfAllGeometries(t *testing.T) {
	for _, g := range goods() {
		blocks, page0 := device(g)
		want := counts{maps: page0 - 1, total: len(blocks)}
		for _, p := range blocks {
			switch p.Kind {
			case epoch:
				want.epochs++
			case sealed:
				want.sealed++
			}
			if p.Kind != log {
				want.leaves++
			}
		}
		if got := countsOf(g); got != want {
			t.Errorf("%v: %v, not %v", g, got, want)
		}
	}
}

// P7.2: each block of each kind, and those below and beyond.
func TestPlacesOfAllGeometries(t *testing.T) {
	for _, g := range goods() {
		blocks, page0 := device(g)
		at := map[geom.Part]int{}
		for k, p := range blocks {
			at[p] = k
		}
		where := func(kind, k int) int {
			if block, ok := at[geom.Part{Kind: kind, K: k}]; ok {
				return block
			}
			return -1
		}
		for _, k := range near() {
			got := [3]int{geom.EpochAt(g, k), geom.SealedAt(g, k), geom.LogAt(g, k)}
			if want := [3]int{where(epoch, k), where(sealed, k), where(log, k)}; got != want {
				t.Fatalf("%v, number %d: epoch block, sealed block, log at %v, not %v", g, k, got, want)
			}
			page := -1
			if 0 <= k && k < g.Pages {
				page = page0 + k
			}
			if got := geom.PageAt(g, k); got != page {
				t.Fatalf("%v: page %d is sealed block %d, not %d", g, k, got, page)
			}
		}
	}
}

// P7.2: the ends of each kind, of geometries that were laid out by hand.
func TestKnownPlaces(t *testing.T) {
	type ask struct {
		name string
		at   func(api.Geo, int) int
		k    int
		want int
	}
	rows := map[api.Geo][]ask{
		{Pages: 20, Tx: 4}: {
			{"EpochAt", geom.EpochAt, 0, 1}, {"EpochAt", geom.EpochAt, 1, -1}, {"EpochAt", geom.EpochAt, -1, -1},
			{"SealedAt", geom.SealedAt, 0, 2}, {"SealedAt", geom.SealedAt, 22, 24}, {"SealedAt", geom.SealedAt, 23, -1},
			{"LogAt", geom.LogAt, 0, 25}, {"LogAt", geom.LogAt, 4, 29}, {"LogAt", geom.LogAt, 5, -1},
			{"PageAt", geom.PageAt, 0, 3}, {"PageAt", geom.PageAt, 19, 22}, {"PageAt", geom.PageAt, 20, -1},
		},
		{Pages: 64, Tx: 24}: {
			{"EpochAt", geom.EpochAt, 0, 1}, {"EpochAt", geom.EpochAt, 2, 3}, {"EpochAt", geom.EpochAt, 3, -1},
			{"SealedAt", geom.SealedAt, 0, 4}, {"SealedAt", geom.SealedAt, 68, 72}, {"SealedAt", geom.SealedAt, 69, -1},
			{"LogAt", geom.LogAt, 0, 73}, {"LogAt", geom.LogAt, 24, 97}, {"LogAt", geom.LogAt, 25, -1},
			{"PageAt", geom.PageAt, 0, 5}, {"PageAt", geom.PageAt, 63, 68}, {"PageAt", geom.PageAt, 64, -1},
		},
	}
	for g, l := range rows {
		for _, a := range l {
			if got := a.at(g, a.k); got != a.want {
				t.Errorf("%v: %s of %d is %d, not %d", g, a.name, a.k, got, a.want)
			}
		}
	}
}

// P7.2
func TestWhereTellsEachBlock(t *testing.T) {
	for _, g := range goods() {
		blocks, _ := device(g)
		for _, k := range near() {
			want := geom.Part{Kind: none}
			if 0 <= k && k < len(blocks) {
				want = blocks[k]
			}
			if got := geom.Where(g, k); got != want {
				t.Fatalf("%v: block %d is %v, not %v", g, k, got, want)
			}
		}
	}
}

// P7.2
func TestBytesOfBlocks(t *testing.T) {
	for k := range 65536 {
		if got := geom.Bytes(k); got != 256*k {
			t.Fatalf("Bytes(%d) is %d", k, got)
		}
	}
	for _, k := range append(far(), 65537, 65536+256) {
		if got := geom.Bytes(k); got != 0 {
			t.Errorf("Bytes(%d) is %d", k, got)
		}
	}
}

// P7.1, P7.2, P1: geometries that may not be have nothing.
func TestGeometriesThatMayNotBe(t *testing.T) {
	for _, g := range append(bads(), api.Geo{}) {
		if got := countsOf(g); got != (counts{}) {
			t.Errorf("%v: %v", g, got)
		}
		for _, k := range append(far(), 0, 1, 2, 3, 4, 24, 25, 63, 64, 97) {
			got := [4]int{geom.EpochAt(g, k), geom.SealedAt(g, k), geom.LogAt(g, k), geom.PageAt(g, k)}
			if got != [4]int{-1, -1, -1, -1} {
				t.Fatalf("%v: number %d is at %v", g, k, got)
			}
			if p := geom.Where(g, k); p != (geom.Part{}) {
				t.Fatalf("%v: block %d is %v", g, k, p)
			}
		}
	}
}

// P7.3: each block is one of one kind, and its place tells the way back.
func TestWayBackOfEachBlock(t *testing.T) {
	for _, g := range goods() {
		seen := map[geom.Part]bool{}
		for block := range geom.Total(g) {
			p := geom.Where(g, block)
			if p == (geom.Part{}) || seen[p] {
				t.Fatalf("%v: block %d is %v, for nothing or again", g, block, p)
			}
			seen[p] = true
			back := map[int]int{super: 0, epoch: geom.EpochAt(g, p.K), sealed: geom.SealedAt(g, p.K), log: geom.LogAt(g, p.K)}
			if got, ok := back[p.Kind]; !ok || got != block {
				t.Fatalf("%v: block %d is %v, which is at %d", g, block, p, got)
			}
			if leaf := block < geom.Leaves(g); leaf != (p.Kind != log) {
				t.Fatalf("%v: is block %d, %v, a leaf?", g, block, p)
			}
		}
		pages := map[int]bool{}
		for k := range g.Pages {
			at := geom.PageAt(g, k)
			if at <= geom.Maps(g) || at >= geom.Sealed(g) || pages[at] || geom.SealedAt(g, at) < 0 {
				t.Fatalf("%v: page %d is sealed block %d", g, k, at)
			}
			pages[at] = true
		}
	}
}

// Rule 6: what is told of one geometry doesn't hang on calls ahead.
func TestCallsAreApart(t *testing.T) {
	g, other := api.Geo{Pages: 20, Tx: 4}, api.Geo{Pages: 64, Tx: 24}
	for range 3 {
		if countsOf(g) != (counts{2, 23, 1, 25, 30}) || geom.Where(g, 24) != (geom.Part{Kind: sealed, K: 22}) || geom.LogAt(g, 0) != 25 {
			t.Error("another answer", g)
		}
		if countsOf(other) != (counts{4, 69, 3, 73, 98}) || geom.Where(other, 97) != (geom.Part{Kind: log, K: 24}) {
			t.Error("another answer", other)
		}
		countsOf(api.Geo{Pages: -1, Tx: 99})
	}
}
