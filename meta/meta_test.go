package meta_test

import (
	"bytes"
	"math"
	"math/rand/v2"
	"slices"
	"testing"

	"garderobe/api"
	"garderobe/handle"
	"garderobe/meta"
	"garderobe/pages"
)

// P22.1: New of all geometries.
func TestNew(t *testing.T) {
	for _, g := range goods() {
		m := meta.New(g)
		if m.Roots != (handle.Roots{Next: 1}) || !slices.Equal(m.Pages, make([]pages.Page, g.Pages)) {
			t.Errorf("%v: %v", g, m)
		}
		held(t, "new", g, m)
	}
	for _, g := range bads() {
		if m := meta.New(g); !nothing(m) {
			t.Errorf("%v: %v", g, m)
		}
	}
}

// P22.1, P22.3: Metas of all kinds, as blocks and back.
func TestThereAndBack(t *testing.T) {
	for _, g := range goods() {
		for seed := range uint64(40) {
			m := some(g.Pages, seed)
			if !may(g.Pages, m) {
				t.Fatal("the test's own Meta may not be", m)
			}
			l, e := meta.Blocks(g, m)
			if e != api.OK || len(l) != 1+maps(g.Pages) || !slices.EqualFunc(l, blocks(m), bytes.Equal) {
				t.Errorf("%v: Blocks: error %d, %x", g, e, l)
			}
			if back, f := meta.Parse(g, l...); f != api.OK || !alike(back, m) || !meta.Same(back, m) {
				t.Errorf("%v: Parse: error %d, %v; not %v", g, f, back, m)
			}
		}
	}
}

// P22.1: two blocks that are written down.
func TestBlocksKnown(t *testing.T) {
	m := of(17, 0x0203, great(300, 0x0102), []pages.Page{slots(7)})
	m.Pages[16] = slots(2)
	m.Roots.L[1] = 0x0102000000000003
	want := [][]byte{make([]byte, 256), make([]byte, 256), make([]byte, 256)}
	copy(want[0], "\x03\x02\x00\x00\x00\x00\x00\x00\x00\x00\x00\x00\x00\x00\x00\x00\x03\x00\x00\x00\x00\x00\x02\x01")
	copy(want[1], "\x02\x00\x02\x00\x2c\x01\x00\x00\x02\x01\x00\x00\x00\x00\x00\x00\x03")
	want[1][32], want[1][33] = 1, 7
	copy(want[2], "\x01\x02")
	g := api.Geo{Pages: 17, Tx: 4}
	if l, e := meta.Blocks(g, m); e != api.OK || !slices.EqualFunc(l, want, bytes.Equal) {
		t.Errorf("Blocks: error %d, %x", e, l)
	}
	if back, e := meta.Parse(g, want...); e != api.OK || !alike(back, m) {
		t.Errorf("Parse: error %d, %v", e, back)
	}
}

// P22.1: a geometry that may not be, whatever the Meta and the blocks are.
func TestGeometriesThatMayNotBe(t *testing.T) {
	for _, g := range bads() {
		n := max(0, min(g.Pages, 300))
		for _, m := range []meta.Meta{{}, of(n, 1), of(1, 1), of(4, 1), of(20, 1), of(64, 1)} {
			if l, e := meta.Blocks(g, m); e != api.ErrArg || len(l) != 0 {
				t.Errorf("%v: Blocks: error %d", g, e)
			}
		}
		for many := range 20 {
			if m, e := meta.Parse(g, slices.Repeat([][]byte{make([]byte, 256)}, many)...); e != api.ErrArg || !nothing(m) {
				t.Errorf("%v: Parse of %d blocks: error %d", g, many, e)
			}
		}
	}
}

// P22.1: a Meta has as many pages as the geometry, and as many blocks as that asks for.
func TestCounts(t *testing.T) {
	for _, g := range goods() {
		for n := range 82 {
			held(t, "counts", g, of(n, 1))
			held(t, "counts", g, of(n, 5, []pages.Page{slots(3)}))
		}
		held(t, "no pages", g, meta.Meta{Roots: handle.Roots{Next: 1}})
		for many := range 8 {
			m, e := meta.Parse(g, slices.Repeat([][]byte{make([]byte, 256)}, many)...)
			if right := many == 1+maps(g.Pages); right != (e == api.OK) || !right && (e != api.ErrArg || !nothing(m)) {
				t.Errorf("%v: Parse of %d blocks: error %d", g, many, e)
			}
			if many != 1+maps(g.Pages) { // ahead of what the blocks are
				if _, e := meta.Parse(g, slices.Repeat([][]byte{{1}}, many)...); e != api.ErrArg {
					t.Errorf("%v: Parse of %d blocks of one byte: error %d", g, many, e)
				}
			}
		}
	}
}

// P22.1: a block has 256 bytes.
func TestLengths(t *testing.T) {
	for _, n := range []int{1, 16, 17, 64} {
		g := api.Geo{Pages: n, Tx: 4}
		for k := range 1 + maps(n) {
			for _, size := range []int{0, 1, 8, 16, 128, 136, 240, 255, 257, 272, 512} {
				for _, fill := range []byte{0, 1} {
					l := blocks(some(n, 3))
					l[k] = slices.Repeat([]byte{fill}, size)
					if m, e := meta.Parse(g, l...); e != api.ErrForm || !nothing(m) {
						t.Errorf("block %d of %d bytes: error %d", k, size, e)
					}
				}
			}
			l := blocks(some(n, 3))
			l[k] = nil
			if m, e := meta.Parse(g, l...); e != api.ErrForm || !nothing(m) {
				t.Errorf("block %d nil: error %d", k, e)
			}
		}
	}
}

// P22.1: the head's next serial and roots, at their ends and beyond.
func TestHeads(t *testing.T) {
	nexts := []uint64{0, 1, 2, maxSerial - 1, maxSerial, maxSerial + 1, maxSerial + 2, 1 << 56, 1<<63 + 1, math.MaxUint64}
	roots := []handle.Handle{0, 1, maxSerial, 63<<56 | 15<<48 | maxSerial, 64<<56 | 1, 16<<48 | 1, 1 << 48, 63 << 56, math.MaxUint64}
	for _, g := range []api.Geo{{Pages: 1, Tx: 4}, {Pages: 20, Tx: 4}} {
		for _, next := range nexts {
			for _, h := range roots {
				for _, k := range []int{0, 7, 15} {
					for _, m := range []meta.Meta{of(g.Pages, next), of(g.Pages, next, []pages.Page{slots(0)})} {
						m.Roots.L[k] = h
						held(t, "heads", g, m)
						parsed(t, "heads", g, blocks(m))
					}
				}
			}
		}
	}
}

// P22.1: a head's block of noughts is a head whose Next is 1; then no object that takes pages may be.
func TestHeadOfNoughts(t *testing.T) {
	for _, g := range []api.Geo{{Pages: 2, Tx: 4}, {Pages: 20, Tx: 4}, {Pages: 64, Tx: 4}} {
		l := blocks(of(g.Pages, 0))
		if m, e := meta.Parse(g, l...); e != api.OK || !alike(m, meta.New(g)) {
			t.Errorf("noughts: %v, error %d", m, e)
		}
		l = blocks(of(g.Pages, 0, []pages.Page{slots(6), slots(1)}))
		if m, e := meta.Parse(g, l...); e != api.OK || !alike(m, of(g.Pages, 1, []pages.Page{slots(6), slots(1)})) {
			t.Errorf("with slots: %v, error %d", m, e)
		}
		for _, serial := range []uint64{1, 2, maxSerial} {
			for _, size := range []int{121, 300} {
				l = blocks(of(g.Pages, 0, great(size, serial)))
				if m, e := meta.Parse(g, l...); e != api.ErrForm || !nothing(m) {
					t.Errorf("with an object: %v, error %d", m, e)
				}
			}
		}
		if b, e := meta.Blocks(g, of(g.Pages, 0)); e != api.ErrArg || len(b) != 0 {
			t.Errorf("Blocks of one without a next serial: error %d", e)
		}
		if b, e := meta.Blocks(g, meta.Meta{Pages: make([]pages.Page, g.Pages)}); e != api.ErrArg || len(b) != 0 {
			t.Errorf("Blocks of one of which all is 0: error %d", e)
		}
	}
}

// P22.1: each Head's serial is below the next one, wherever it is.
func TestSerials(t *testing.T) {
	g := api.Geo{Pages: 40, Tx: 4}
	for _, next := range []uint64{1, 2, 3, 1 << 32, maxSerial, maxSerial + 1} {
		for _, serial := range []uint64{0, 1, 2, 3, next - 2, next - 1, next, next + 1, maxSerial, maxSerial + 1} {
			for _, at := range []int{0, 15, 16, 39} {
				m := of(40, next, make([]pages.Page, at), great(200, serial))
				held(t, "a Head", g, m)
				parsed(t, "a Head", g, blocks(m))
			}
		}
		if next > 2 {
			m := of(40, next, great(200, next-1), great(700, 1), great(200, next-1))
			held(t, "Heads of one serial", g, m)
			m.Pages[39] = head(121, next)
			held(t, "the last Head", g, m)
			parsed(t, "the last Head", g, blocks(m))
		}
	}
}

// P22.1: pages that may be, and may not, among themselves.
func TestPages(t *testing.T) {
	letters := []pages.Page{{}, slots(3), slots(8), slots(-1), head(200, 1), head(300, 2), head(700, 3), head(120, 1), head(300, 0), tail(),
		{Kind: 4}, {Kind: -1}, {Class: 1}, {Serial: 1}, {Kind: 3, Run: 1}, {Kind: 1, Size: 1}, {Kind: 2, Run: 2, Size: 256, Serial: 1}, {Kind: 2, Run: 1, Size: 257, Serial: 1}}
	for _, n := range []int{1, 3, 17, 18, 64} {
		g := api.Geo{Pages: n, Tx: 4}
		for _, at := range []int{0, 12, 14, 15, 61, n - 1} {
			for _, p := range letters {
				for _, q := range letters {
					for _, o := range [][]pages.Page{{p}, {p, q}, {p, q, tail()}} {
						if at < 0 || at+len(o) > n {
							continue
						}
						m := of(n, 9, make([]pages.Page, at), o)
						held(t, "pages", g, m)
						parsed(t, "pages", g, blocks(m))
					}
				}
			}
		}
	}
}

// P22.1: an object's pages stand in two maps, or in three.
func TestAcrossMaps(t *testing.T) {
	for at := range 49 {
		g := api.Geo{Pages: 64, Tx: 4}
		m := of(64, 9, make([]pages.Page, at), great(4096, 8))
		if !may(64, m) {
			t.Fatal(at)
		}
		held(t, "across", g, m)
		m.Pages[at+15] = pages.Page{}
		held(t, "torn", g, m)
		parsed(t, "torn", g, blocks(m))
	}
}

// P22.1: behind the last page there are Free ones in the last map, and nothing else.
func TestBehindTheLastPage(t *testing.T) {
	for _, n := range []int{1, 2, 15, 16, 17, 20, 31, 33, 63} {
		g := api.Geo{Pages: n, Tx: 4}
		for k := n; k < 16*maps(n); k++ {
			for _, p := range []pages.Page{slots(0), slots(5), head(200, 1), head(300, 1), tail(), {Kind: 4}, {Kind: 0, Class: 1}, {Kind: 0, Serial: 1 << 63}} {
				l := blocks(of(n, 5))
				copy(l[1+k/16][16*(k%16):], pageBytes(p))
				parsed(t, "behind", g, l)
				if _, e := meta.Parse(g, l...); e != api.ErrForm {
					t.Errorf("%v: page %d is %v: error %d", g, k, p, e)
				}
			}
		}
		if n%16 != 0 { // an object that would end behind the last page
			l := blocks(of(16*maps(n), 5, make([]pages.Page, n-1), great(300, 1)))
			parsed(t, "beyond", g, l)
			if _, e := meta.Parse(g, l...); e != api.ErrForm {
				t.Errorf("%v: an object that ends behind the last page: error %d", g, e)
			}
		}
	}
}

// P22.1: each bit of blocks that a Meta has.
func TestBits(t *testing.T) {
	for n, m := range map[int]meta.Meta{3: of(3, 3, great(300, 2), []pages.Page{slots(2)}), 20: some(20, 7), 40: some(40, 8)} {
		g := api.Geo{Pages: n, Tx: 4}
		l := blocks(m)
		for k := range l {
			for bit := range 8 * 256 {
				l[k][bit/8] ^= 1 << (bit % 8)
				parsed(t, "a bit", g, l)
				l[k][bit/8] ^= 1 << (bit % 8)
			}
		}
		parsed(t, "all bits", g, l)
	}
}

// P22.1: bytes of all kinds.
func TestBytes(t *testing.T) {
	r := rand.New(rand.NewPCG(6, 6))
	for range 3000 {
		n := 1 + r.IntN(64)
		g := api.Geo{Pages: n, Tx: 4}
		l := blocks(some(n, r.Uint64()))
		for range 1 + r.IntN(3) {
			k, at := r.IntN(len(l)), r.IntN(256)
			switch r.IntN(4) {
			case 0:
				l[k][at] = byte(r.Uint32())
			case 1:
				l[k][at&^15] = byte(r.IntN(5))
			case 2:
				clear(l[k][at&^15:][:16])
			case 3:
				k2 := r.IntN(len(l))
				l[k], l[k2] = l[k2], l[k]
			}
		}
		parsed(t, "bytes", g, l)
	}
}

// P22.1: Same, of Metas that may be, or not.
func TestSame(t *testing.T) {
	l := []meta.Meta{{}, {Pages: []pages.Page{{}}}, {Roots: handle.Roots{Next: 1}}, of(4, 1), of(5, 1), of(4, 2), of(4, 1, great(300, 1)),
		of(4, 1, great(200, 1)), of(4, 1, great(200, 2)), of(4, 1, great(201, 2)), of(4, 1, make([]pages.Page, 1), great(200, 1)), of(65, 0), some(64, 1), some(64, 2),
		{Pages: []pages.Page{{Kind: 9}}}, {Pages: []pages.Page{{Run: 9}}}, {Pages: []pages.Page{{Class: 9}}}, {Pages: []pages.Page{{Size: 9}}}, {Pages: []pages.Page{{Serial: 9}}}}
	for k := range 16 {
		m := of(4, 1)
		m.Roots.L[k] = 1
		l = append(l, m)
	}
	m := some(64, 1)
	for k := range m.Pages {
		o := clone(m)
		o.Pages[k].Class ^= 1
		l = append(l, o)
	}
	for i, a := range l {
		for j, b := range l {
			if got := meta.Same(a, clone(b)); got != (i == j) {
				t.Errorf("%v, %v: %v", a, b, got)
			}
		}
	}
	if !meta.Same(meta.Meta{Pages: []pages.Page{}}, meta.Meta{}) {
		t.Error("no pages")
	}
}

// Rules 4 and 5: what is handed in is left, up to its capacity; answers share no memory.
func TestCopies(t *testing.T) {
	g := api.Geo{Pages: 20, Tx: 4}
	m := some(20, 11)
	room := append(slices.Clone(m.Pages), slices.Repeat([]pages.Page{{Kind: 9}}, 40)...)
	were := slices.Clone(room)
	in := meta.Meta{Roots: m.Roots, Pages: room[:20]}
	a, _ := meta.Blocks(g, in)
	b, _ := meta.Blocks(g, in)
	meta.Same(in, in)
	if !slices.Equal(room, were) {
		t.Error("what was handed in was changed")
	}
	clear(room)
	for _, x := range a {
		clear(x[:cap(x)])
	}
	clear(a[:cap(a)])
	if !slices.EqualFunc(b, blocks(m), bytes.Equal) {
		t.Error("Blocks shares its answers, or what it was given")
	}
	x, _ := meta.Parse(g, b...)
	y, _ := meta.Parse(g, b...)
	if !slices.EqualFunc(b, blocks(m), bytes.Equal) {
		t.Error("Parse changed its blocks")
	}
	for _, z := range b {
		clear(z[:cap(z)])
	}
	clear(x.Pages[:cap(x.Pages)])
	if !alike(y, m) {
		t.Error("Parse shares its answers, or what it was given")
	}
	n, o := meta.New(g), meta.New(g)
	n.Pages[3] = slots(1)
	if !alike(o, of(20, 1)) || !alike(meta.New(g), of(20, 1)) {
		t.Error("New shares its answers")
	}
}

// Rule 6: blocks of one block share none with one another.
func TestBlocksAreApart(t *testing.T) {
	g := api.Geo{Pages: 64, Tx: 4}
	want := blocks(of(64, 1))
	for k := range want {
		l, _ := meta.Blocks(g, of(64, 1))
		x := l[k][:cap(l[k])]
		for i := range x {
			x[i] = 255
		}
		for j := range l {
			if j != k && !bytes.Equal(l[j], want[j]) {
				t.Errorf("blocks %d and %d share memory", j, k)
			}
		}
	}
}
