package logf_test

import (
	"bytes"
	"encoding/binary"
	"math"
	"math/rand/v2"
	"slices"
	"testing"

	"garderobe/api"
	"garderobe/logf"
)

// geos are some geometries that may be: the least, the greatest, some between.
func geos() []api.Geo {
	return []api.Geo{{Pages: 1, Tx: 4}, {Pages: 1, Tx: 24}, {Pages: 20, Tx: 4}, {Pages: 33, Tx: 7}, {Pages: 64, Tx: 4}, {Pages: 64, Tx: 24}}
}

// bads are geometries that may not be.
func bads() []api.Geo {
	return []api.Geo{{}, {Pages: 0, Tx: 4}, {Pages: 65, Tx: 4}, {Pages: -1, Tx: 4}, {Pages: 20, Tx: 3}, {Pages: 20, Tx: 0},
		{Pages: 20, Tx: -1}, {Pages: 20, Tx: 25}, {Pages: math.MinInt, Tx: 4}, {Pages: 20, Tx: math.MinInt},
		{Pages: math.MaxInt, Tx: 4}, {Pages: 20, Tx: math.MaxInt}, {Pages: 1<<32 + 20, Tx: 4}, {Pages: 20, Tx: 1<<32 + 4}}
}

// far are numbers that no sealed block has; the lowest bytes of some of them are those of one that has.
func far(g api.Geo) []int {
	n := sealed(g)
	return []int{n, n + 1, 70, 255, 256, 1<<16 - 1, 1 << 16, 1<<16 + 1, 1 << 32, 1<<32 + 2, 1 << 62, math.MaxInt,
		-1, -2, -n, -1 << 16, -1<<16 + 1, math.MinInt32, math.MinInt, math.MinInt + 1}
}

// sealed is how many sealed blocks a geometry has: the head, the maps, the pages.
func sealed(g api.Geo) int { return 1 + (g.Pages+15)/16 + g.Pages }

// data is a block's bytes, others of each seed.
func data(seed int) []byte {
	r, b := rand.NewPCG(uint64(seed), 1), make([]byte, 256)
	for k := range b {
		b[k] = byte(r.Uint64())
	}
	return b
}

// of is a log of these numbers.
func of(count uint64, numbers ...int) logf.Log {
	l := logf.Log{Count: count}
	for i, k := range numbers {
		l.L = append(l.L, logf.Entry{K: k, Data: data(i)})
	}
	return l
}

// from are n numbers, from first on, one behind the other.
func from(first, n int) []int {
	var l []int
	for k := range n {
		l = append(l, first+k)
	}
	return l
}

// words are the blocks of a log, by the words, however few or many entries it has.
func words(l logf.Log) [][]byte {
	b := binary.LittleEndian.AppendUint64([]byte("REDO-LOG"), l.Count)
	b = binary.LittleEndian.AppendUint16(b, uint16(len(l.L)))
	for _, x := range l.L {
		b = binary.LittleEndian.AppendUint16(b, uint16(x.K))
	}
	out := [][]byte{append(b, make([]byte, max(0, 256-len(b)))...)[:256]}
	for _, x := range l.L {
		out = append(out, slices.Clone(x.Data))
	}
	return out
}

// filled are some blocks with any others behind them, as many as the log of a geometry has.
func filled(g api.Geo, blocks [][]byte) [][]byte {
	for len(blocks) < 1+g.Tx {
		blocks = append(blocks, data(1000+len(blocks)))
	}
	return blocks[:1+g.Tx]
}

// logs are logs that may be, of a geometry: of one entry, of several, of as many as there may be.
func logs(g api.Geo) []logf.Log {
	n := sealed(g)
	l := []logf.Log{of(0, 0), of(3, n-1), of(1, 0, n-1), of(math.MaxUint64, 0, 1, 2), of(1<<63+1<<40+7, n-2)}
	for many := 1; many <= min(g.Tx, n); many++ {
		l = append(l, of(uint64(many)<<32, from(0, many)...), of(uint64(many), from(n-many, many)...))
	}
	return l
}

// equal tells whether two logs are the same, by the words.
func equal(a, b logf.Log) bool {
	return a.Count == b.Count && slices.EqualFunc(a.L, b.L, func(x, y logf.Entry) bool { return x.K == y.K && bytes.Equal(x.Data, y.Data) })
}

// refused fails if a log is said to be one that may be.
func refused(t *testing.T, what string, g api.Geo, l logf.Log) {
	t.Helper()
	if logf.May(g, l) {
		t.Errorf("May of %s of %v", what, g)
	}
	if b, e := logf.Encode(g, l); e != api.ErrArg || len(b) != 0 {
		t.Errorf("Encode of %s of %v: %d blocks, error %d", what, g, len(b), e)
	}
}

// fails fails if Parse doesn't say that error.
func fails(t *testing.T, what string, want api.Errno, g api.Geo, blocks ...[]byte) {
	t.Helper()
	if l, e := logf.Parse(g, blocks...); e != want || l.Count != 0 || len(l.L) != 0 {
		t.Errorf("Parse of %s of %v: %v, error %d; not %d", what, g, l, e, want)
	}
}

func TestExample(t *testing.T) {
	l := logf.Log{Count: 3, L: []logf.Entry{{K: 5, Data: data(9)}}}
	b, e := logf.Encode(api.Geo{Pages: 20, Tx: 4}, l)
	want := append([]byte("REDO-LOG"), 3, 0, 0, 0, 0, 0, 0, 0, 1, 0, 5, 0)
	if e != api.OK || len(b) != 2 || len(b[0]) != 256 || !bytes.HasPrefix(b[0], want) || bytes.Trim(b[0][len(want):], "\x00") != nil || !bytes.Equal(b[1], data(9)) {
		t.Errorf("%x, error %d", b, e)
	}
}

// P14.1, P14.3: the blocks of logs that may be, and the way back, whatever stands behind.
func TestThereAndBack(t *testing.T) {
	for _, g := range geos() {
		for _, l := range logs(g) {
			if !logf.May(g, l) {
				t.Fatalf("a log of %d entries of %v may be", len(l.L), g)
			}
			b, e := logf.Encode(g, l)
			if e != api.OK || !slices.EqualFunc(b, words(l), bytes.Equal) {
				t.Fatalf("Encode of %d entries of %v: %x, error %d", len(l.L), g, b, e)
			}
			if n := logf.Size(l); n != len(b) {
				t.Errorf("Size %d of %d blocks", n, len(b))
			}
			back, e := logf.Parse(g, filled(g, b)...)
			if e != api.OK || !equal(back, l) || !logf.Same(back, l) {
				t.Fatalf("Parse of %d entries of %v: %v, error %d", len(l.L), g, back, e)
			}
		}
	}
}

// P14.1: no entries, one more than Tx, far too many.
func TestHowMany(t *testing.T) {
	for _, g := range geos() {
		refused(t, "no entries", g, logf.Log{Count: 3})
		refused(t, "an empty list", g, logf.Log{Count: 3, L: []logf.Entry{}})
		for _, many := range []int{g.Tx + 1, g.Tx + 2, 65, 256, 1000} {
			refused(t, "too many entries", g, of(3, from(0, many)...))
		}
	}
	g := api.Geo{Pages: 64, Tx: 23}
	refused(t, "one entry more than Tx", g, of(3, from(0, 24)...))
}

// P14.1: numbers that do not rise, that come twice, that no sealed block has.
func TestNumbers(t *testing.T) {
	for _, g := range geos() {
		n := sealed(g)
		for _, l := range [][]int{{1, 0}, {0, 0}, {n - 1, n - 1}, {0, 1, 1}, {0, 2, 1}, {1, 2, 0}, {0, 1, 2, 0}} {
			refused(t, "numbers that do not rise", g, of(3, l...))
		}
		for _, k := range far(g) {
			refused(t, "a number that there is not", g, of(3, k))
			refused(t, "a number that there is not, first", g, of(3, k, 1))
			refused(t, "a number that there is not, last", g, of(3, 0, k))
			refused(t, "a number that there is not, between", g, of(3, 0, k, 1))
		}
	}
}

// P14.1: an entry has 256 bytes.
func TestDataLength(t *testing.T) {
	for _, g := range geos() {
		for _, n := range []int{0, 1, 255, 257, 512} {
			for at := range 3 {
				l := of(3, 0, 1, 2)
				l.L[at].Data = make([]byte, n)
				refused(t, "data that are no block", g, l)
			}
		}
		refused(t, "nil data", g, logf.Log{Count: 3, L: []logf.Entry{{K: 0}}})
	}
}

// P14.1, P14.2: geometries that may not be.
func TestGeometry(t *testing.T) {
	for _, g := range bads() {
		refused(t, "a log", g, of(3, 0))
		refused(t, "no log", g, logf.Log{})
		fails(t, "no blocks", api.ErrArg, g)
		for _, tx := range []int{0, 3, 4, 24, 25} {
			fails(t, "a log's blocks", api.ErrArg, g, filled(api.Geo{Pages: 20, Tx: tx}, words(of(3, 0)))...)
		}
	}
}

// P14.1: how many blocks a log has, whether it may be or not.
func TestSize(t *testing.T) {
	for _, n := range []int{0, 1, 2, 24, 25, 1000} {
		if got := logf.Size(of(1, from(0, n)...)); got != 1+n {
			t.Errorf("Size of %d entries: %d", n, got)
		}
	}
	if n := logf.Size(logf.Log{Count: 5, L: []logf.Entry{{K: -1}, {K: -1, Data: data(1)}}}); n != 3 {
		t.Errorf("Size of a log that may not be: %d", n)
	}
}

// P14.1: logs that differ in the count, in a number, in one byte, in how many entries there are, in their order.
func TestSame(t *testing.T) {
	a := of(3, 1, 4, 7)
	if !logf.Same(a, of(3, 1, 4, 7)) || !logf.Same(logf.Log{}, logf.Log{L: []logf.Entry{}}) {
		t.Error("like logs are not the same")
	}
	if !logf.Same(logf.Log{L: []logf.Entry{{K: -9}}}, logf.Log{L: []logf.Entry{{K: -9, Data: []byte{}}}}) {
		t.Error("like logs that may not be are not the same")
	}
	unlike := []logf.Log{of(4, 1, 4, 7), of(3+1<<32, 1, 4, 7), of(3, 1, 4, 8), of(3, 2, 4, 7), of(3, 1, 5, 7), of(3, 1, 4), of(3), {},
		of(3, 1, 4, 7, 8), of(3, 1+1<<32, 4, 7), {Count: 3, L: []logf.Entry{a.L[0], a.L[2], a.L[1]}}}
	for at := range 3 {
		for _, k := range []int{0, 100, 255} {
			b := of(3, 1, 4, 7)
			b.L[at].Data[k] ^= 1
			unlike = append(unlike, b)
		}
		shorter, longer := of(3, 1, 4, 7), of(3, 1, 4, 7)
		shorter.L[at].Data = shorter.L[at].Data[:255]
		longer.L[at].Data = append(longer.L[at].Data, 0)
		unlike = append(unlike, shorter, longer)
	}
	for i, b := range unlike {
		if logf.Same(a, b) || logf.Same(b, a) {
			t.Errorf("log %d is not the same", i)
		}
	}
}

// P14.2: too few and too many blocks, and some that are too short or too long.
func TestParseBlocks(t *testing.T) {
	for _, g := range geos() {
		blocks := filled(g, words(of(3, 0, 1)))
		fails(t, "no blocks", api.ErrArg, g)
		for _, n := range []int{1, 2, g.Tx - 1, g.Tx} {
			fails(t, "too few blocks", api.ErrArg, g, blocks[:n]...)
		}
		fails(t, "a block too many", api.ErrArg, g, append(slices.Clone(blocks), data(1))...)
		fails(t, "twice the blocks", api.ErrArg, g, append(slices.Clone(blocks), blocks...)...)
		for k := range blocks {
			for _, b := range [][]byte{nil, {}, {1}, blocks[k][:255], append(slices.Clone(blocks[k]), 0), make([]byte, 512)} {
				odd := slices.Clone(blocks)
				odd[k] = b
				fails(t, "a block that is no block", api.ErrArg, g, odd...)
			}
		}
		noughts := make([][]byte, 1+g.Tx)
		for k := range noughts {
			noughts[k] = make([]byte, 256)
		}
		fails(t, "noughts", api.ErrForm, g, noughts...)
	}
}

// P14.2: each byte of the first block that is another one makes another log of it, or none.
func TestParseTurned(t *testing.T) {
	for _, g := range geos() {
		for _, numbers := range [][]int{{1}, {0, 2}, {0, 1, 2}} {
			for at := range 256 {
				for _, by := range []byte{1, 2, 3, 4, 16, 128, 255} {
					blocks := filled(g, words(of(3, numbers...)))
					blocks[0][at] ^= by
					turned(t, g, blocks)
				}
			}
		}
	}
}

// turned fails if Parse doesn't answer what the words ask of some blocks: the log whose blocks the first ones are, where
// there is such a one.
func turned(t *testing.T, g api.Geo, blocks [][]byte) {
	t.Helper()
	first := blocks[0]
	want := logf.Log{Count: binary.LittleEndian.Uint64(first[8:])}
	last, may := -1, true
	many := int(binary.LittleEndian.Uint16(first[16:]))
	for i := range min(many, g.Tx) {
		k := int(binary.LittleEndian.Uint16(first[18+2*i:]))
		may = may && k > last && k < sealed(g)
		last = k
		want.L = append(want.L, logf.Entry{K: k, Data: blocks[1+i]})
	}
	if !may || many < 1 || many > g.Tx || !bytes.Equal(words(want)[0], first) {
		fails(t, "a first block with another byte", api.ErrForm, g, blocks...)
		return
	}
	if l, e := logf.Parse(g, blocks...); e != api.OK || !equal(l, want) {
		t.Errorf("Parse of %v: %v, error %d; not %v", g, l, e, want)
	}
}

// P14.2: the first blocks of logs that may not be.
func TestParseOfNone(t *testing.T) {
	for _, g := range geos() {
		for _, many := range []int{0, g.Tx + 1, 25, 100, 119} {
			fails(t, "no entries, or too many", api.ErrForm, g, filled(g, words(of(3, from(0, many)...)))...)
		}
		n := sealed(g)
		for _, l := range [][]int{{n}, {1<<16 - 1}, {0, n}, {1, 0}, {1, 1}, {0, 2, 1}} {
			fails(t, "numbers that may not be", api.ErrForm, g, filled(g, words(of(3, l...)))...)
		}
		blocks := filled(g, words(of(3, 0, 1)))
		for _, many := range []int{1, 3, 4, 1 << 8, 1<<16 - 1} { // fewer and more numbers than it is said that there are
			other := slices.Clone(blocks)
			other[0] = slices.Clone(blocks[0])
			binary.LittleEndian.PutUint16(other[0][16:], uint16(many))
			fails(t, "another count of entries", api.ErrForm, g, other...)
		}
	}
}

// P14.2: what stands in the blocks behind the log plays no part; its entries' blocks may have any bytes.
func TestParseBehind(t *testing.T) {
	for _, g := range geos() {
		l := of(3, 0, 2)
		for seed := range 20 {
			blocks := words(l)[:1]
			for k := range g.Tx {
				blocks = append(blocks, data(100*seed+k))
			}
			want := logf.Log{Count: 3, L: []logf.Entry{{K: 0, Data: blocks[1]}, {K: 2, Data: blocks[2]}}}
			if got, e := logf.Parse(g, blocks...); e != api.OK || !equal(got, want) {
				t.Fatalf("Parse of %v: %v, error %d", g, got, e)
			}
		}
	}
}

// P1, rule 4: what is handed in is not changed, also where it has room behind its end.
func TestNothingIsChanged(t *testing.T) {
	g := api.Geo{Pages: 64, Tx: 24}
	l, was := of(3, 0, 5, 9), of(3, 0, 5, 9)
	l.L = append(make([]logf.Entry, 0, 10), l.L...)
	logf.May(g, l)
	logf.Encode(g, l)
	logf.Size(l)
	logf.Same(l, was)
	blocks := filled(g, words(was))
	blocksWere := filled(g, words(was))
	logf.Parse(g, blocks...)
	if !equal(l, was) || l.L[:4][3].K != 0 || !slices.EqualFunc(blocks, blocksWere, bytes.Equal) {
		t.Error("a call changed what it was given")
	}
}

// Rules 4 and 5: an answer shares no memory with another one, nor with what is handed in.
func TestCopies(t *testing.T) {
	g := api.Geo{Pages: 20, Tx: 4}
	l, shared := of(3, 0, 5), data(7)
	l.L[0].Data, l.L[1].Data = shared, shared // one list twice: the answers are two
	want := words(l)
	a, _ := logf.Encode(g, l)
	clear(a[1][:cap(a[1])])
	b, _ := logf.Encode(g, l)
	if !slices.EqualFunc(b, want, bytes.Equal) || !bytes.Equal(a[2], want[2]) || !bytes.Equal(a[0], want[0]) {
		t.Error("Encode shares its answers")
	}
	clear(shared)
	if !slices.EqualFunc(b, want, bytes.Equal) {
		t.Error("Encode shares what it was given")
	}
	blocks := filled(g, [][]byte{want[0], want[1], want[1]})
	x, _ := logf.Parse(g, blocks...)
	clear(x.L[0].Data[:cap(x.L[0].Data)])
	y, _ := logf.Parse(g, blocks...)
	if !bytes.Equal(x.L[1].Data, want[2]) || !bytes.Equal(y.L[0].Data, want[2]) {
		t.Error("Parse shares its answers")
	}
	clear(blocks[1])
	if !bytes.Equal(y.L[0].Data, want[2]) || !bytes.Equal(y.L[1].Data, want[2]) {
		t.Error("Parse shares what it was given")
	}
}
