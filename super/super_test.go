package super_test

import (
	"bytes"
	"encoding/binary"
	"math"
	"math/rand"
	"slices"
	"testing"

	"garderobe/api"
	"garderobe/super"
)

// goods are all geometries that may be.
func goods() []api.Geo {
	var l []api.Geo
	for pages := 1; pages <= 64; pages++ {
		for tx := 4; tx <= 24; tx++ {
			l = append(l, api.Geo{Pages: pages, Tx: tx})
		}
	}
	return l
}

// far are numbers that no geometry has; the lowest two bytes of some of them are those of one that may be.
func far() []int {
	return []int{math.MinInt, math.MinInt + 20, math.MinInt32, -1 << 16, -1<<16 + 20, -20, -2, -1, 0,
		65, 66, 128, 256, 1<<16 + 20, 1<<32 + 20, 1 << 62, math.MaxInt}
}

// bads are geometries that may not be: by their pages, by their blocks, by both.
func bads() []api.Geo {
	l := []api.Geo{{}}
	for _, x := range far() {
		l = append(l, api.Geo{Pages: x, Tx: 4}, api.Geo{Pages: x, Tx: 24}, api.Geo{Pages: 1, Tx: x}, api.Geo{Pages: 64, Tx: x}, api.Geo{Pages: x, Tx: x})
	}
	for _, x := range []int{1, 2, 3, 25, 26} {
		l = append(l, api.Geo{Pages: 20, Tx: x})
	}
	return l
}

// sealed is how many sealed blocks a geometry has: the head, the maps, the pages.
func sealed(g api.Geo) int { return 1 + (g.Pages+15)/16 + g.Pages }

// words is the super of a geometry, by the words.
func words(g api.Geo) []byte {
	b := make([]byte, 256)
	copy(b, "GARDROBE")
	binary.LittleEndian.PutUint16(b[8:], 1)
	binary.LittleEndian.PutUint16(b[10:], uint16(g.Pages))
	binary.LittleEndian.PutUint16(b[12:], uint16(g.Tx))
	return b
}

// epochBlocks are the epoch blocks of some epochs, by the words.
func epochBlocks(epochs []uint64) [][]byte {
	var l [][]byte
	for k, v := range epochs {
		if k%32 == 0 {
			l = append(l, make([]byte, 256))
		}
		binary.LittleEndian.PutUint64(l[k/32][8*(k%32):], v)
	}
	return l
}

// wide are n epochs of all 64 bits.
func wide(n int, seed int64) []uint64 {
	r, l := rand.New(rand.NewSource(seed)), make([]uint64, n)
	for k := range l {
		l[k] = r.Uint64()
	}
	return l
}

// refused fails if Parse doesn't say ErrForm.
func refused(t *testing.T, what string, b []byte) {
	t.Helper()
	if g, e := super.Parse(b); e != api.ErrForm || g != (api.Geo{}) {
		t.Errorf("Parse of %s: %v, error %d", what, g, e)
	}
}

// wrong fails if Epochs doesn't say ErrArg.
func wrong(t *testing.T, what string, g api.Geo, blocks ...[]byte) {
	t.Helper()
	if l, e := super.Epochs(g, blocks...); e != api.ErrArg || len(l) != 0 {
		t.Errorf("Epochs of %s of %v: %v, error %d", what, g, l, e)
	}
}

// missing fails if Block doesn't say ErrArg.
func missing(t *testing.T, what string, g api.Geo, k int, epochs []uint64) {
	t.Helper()
	if b, e := super.Block(g, k, epochs); e != api.ErrArg || len(b) != 0 {
		t.Errorf("Block %d of %s of %v: %x, error %d", k, what, g, b, e)
	}
}

func TestExample(t *testing.T) {
	b, e := super.Bytes(api.Geo{Pages: 20, Tx: 4})
	want := append([]byte("GARDROBE"), 1, 0, 20, 0, 4, 0)
	if e != api.OK || len(b) != 256 || !bytes.HasPrefix(b, want) || bytes.Trim(b[len(want):], "\x00") != nil {
		t.Errorf("%x, error %d", b, e)
	}
}

// P13.1, P13.3: each geometry that may be has its super, which is parsed as it was.
func TestSuper(t *testing.T) {
	for _, g := range goods() {
		b, e := super.Bytes(g)
		if e != api.OK || !bytes.Equal(b, words(g)) {
			t.Errorf("Bytes of %v: %x, error %d", g, b, e)
		}
		if back, e := super.Parse(b); e != api.OK || back != g {
			t.Errorf("Parse of the super of %v: %v, error %d", g, back, e)
		}
	}
}

// P13.1: a geometry that may not be has none, and its super is none.
func TestSuperThatMayNotBe(t *testing.T) {
	for _, g := range bads() {
		if b, e := super.Bytes(g); e != api.ErrArg || len(b) != 0 {
			t.Errorf("Bytes of %v: %x, error %d", g, b, e)
		}
	}
	for _, x := range []int{0, 65, 255, 256, 257, 20 + 256, 1<<16 - 1} {
		refused(t, "too many or too few pages", words(api.Geo{Pages: x, Tx: 4}))
	}
	for _, x := range []int{0, 1, 2, 3, 25, 255, 256, 4 + 256, 1<<16 - 1} {
		refused(t, "too many or too few blocks", words(api.Geo{Pages: 20, Tx: x}))
	}
}

// P13.1: each byte that is another one makes another geometry of it, or none.
func TestParseTurned(t *testing.T) {
	for _, g := range []api.Geo{{Pages: 1, Tx: 4}, {Pages: 20, Tx: 4}, {Pages: 64, Tx: 24}} {
		for k := range 256 {
			for by := 1; by < 256; by++ {
				b := words(g)
				b[k] ^= byte(by)
				other := api.Geo{Pages: int(b[10]), Tx: int(b[12])}
				if (k == 10 || k == 12) && slices.Contains(goods(), other) {
					if back, e := super.Parse(b); e != api.OK || back != other {
						t.Errorf("Parse of the super of %v: %v, error %d", other, back, e)
					}
					continue
				}
				refused(t, "a super with another byte", b)
			}
		}
	}
}

// P13.1: a super has 256 bytes.
func TestParseLength(t *testing.T) {
	whole := append(words(api.Geo{Pages: 20, Tx: 4}), make([]byte, 1000)...)
	for n := range len(whole) + 1 {
		if n != 256 {
			refused(t, "a super that is cut, or goes on", whole[:n])
		}
	}
	refused(t, "nil", nil)
	refused(t, "no bytes", []byte{})
	refused(t, "noughts", make([]byte, 256))
}

// P13.2, P13.3: the epochs of each geometry, of all 64 bits, as blocks and back.
func TestEpochs(t *testing.T) {
	for i, g := range goods() {
		epochs := wide(sealed(g), int64(i))
		epochs[0], epochs[len(epochs)-1] = math.MaxUint64, 1
		want := epochBlocks(epochs)
		var blocks [][]byte
		for k := range want {
			b, e := super.Block(g, k, epochs)
			if e != api.OK || !bytes.Equal(b, want[k]) {
				t.Fatalf("Block %d of %v: %x, error %d", k, g, b, e)
			}
			blocks = append(blocks, b)
		}
		if l, e := super.Epochs(g, blocks...); e != api.OK || !slices.Equal(l, epochs) {
			t.Fatalf("Epochs of %v: %v, error %d; not %v", g, l, e, epochs)
		}
	}
}

// P13.2: how many epoch blocks there are about the ends of the first and of the second one.
func TestEpochBlocks(t *testing.T) {
	for pages, want := range map[int]int{1: 1, 28: 1, 29: 1, 30: 2, 59: 2, 60: 3, 64: 3} {
		g := api.Geo{Pages: pages, Tx: 4}
		epochs := wide(sealed(g), 1)
		if _, e := super.Block(g, want-1, epochs); e != api.OK {
			t.Errorf("%d pages have no block %d: error %d", pages, want-1, e)
		}
		missing(t, "all epochs", g, want, epochs)
	}
}

// P13.2: what stands behind the last epoch plays no part.
func TestEpochsBehind(t *testing.T) {
	for _, pages := range []int{1, 20, 29, 30, 31, 63, 64} {
		g := api.Geo{Pages: pages, Tx: 24}
		epochs := wide(sealed(g), 3)
		blocks := epochBlocks(epochs)
		last := blocks[len(blocks)-1]
		for at := 8 * (len(epochs) - 32*(len(blocks)-1)); at < 256; at++ {
			last[at] = byte(at | 1)
		}
		if l, e := super.Epochs(g, blocks...); e != api.OK || !slices.Equal(l, epochs) {
			t.Errorf("Epochs of %v: %v, error %d; not %v", g, l, e, epochs)
		}
	}
}

// P13.2: too few and too many blocks, some that are too short or too long, geometries that may not be.
func TestEpochsRefused(t *testing.T) {
	for _, pages := range []int{1, 20, 29, 30, 59, 60, 64} {
		g := api.Geo{Pages: pages, Tx: 4}
		blocks := epochBlocks(wide(sealed(g), 4))
		wrong(t, "a block too few", g, blocks[1:]...)
		wrong(t, "a block too many", g, append(slices.Clone(blocks), blocks[0])...)
		wrong(t, "no blocks", g)
		for k := range blocks {
			for _, b := range [][]byte{nil, {}, {1}, blocks[k][:255], append(slices.Clone(blocks[k]), 0), make([]byte, 512)} {
				odd := slices.Clone(blocks)
				odd[k] = b
				wrong(t, "a block that is no block", g, odd...)
			}
		}
	}
	g := api.Geo{Pages: 64, Tx: 4} // as many bytes in all as three blocks have, in blocks of other lengths
	wrong(t, "blocks cut elsewhere", g, make([]byte, 255), make([]byte, 257), make([]byte, 256))
	wrong(t, "one block of three", g, make([]byte, 768))
	for _, g := range bads() {
		for n := range 4 {
			wrong(t, "a geometry that may not be", g, epochBlocks(make([]uint64, 32*n))...)
		}
	}
}

// P13.2: too few and too many epochs, blocks that there are not, geometries that may not be.
func TestBlockRefused(t *testing.T) {
	for _, g := range []api.Geo{{Pages: 1, Tx: 4}, {Pages: 20, Tx: 4}, {Pages: 30, Tx: 24}, {Pages: 64, Tx: 24}} {
		n := sealed(g)
		for _, many := range []int{0, 1, n - 1, n + 1, n + 32, 2 * n, 1000} {
			missing(t, "too few or too many epochs", g, 0, make([]uint64, many))
		}
		missing(t, "no epochs", g, 0, nil)
		for _, k := range []int{math.MinInt, -1 << 32, -32, -2, -1, (n + 31) / 32, 4, 32, 1 << 32, 1 << 59, math.MaxInt} {
			missing(t, "all epochs", g, k, make([]uint64, n))
		}
	}
	for _, g := range bads() {
		for n := range 70 {
			missing(t, "epochs", g, 0, make([]uint64, n))
		}
	}
}

// P1, rule 4: what is handed in is not changed, also where it has room behind its end.
func TestNothingIsChanged(t *testing.T) {
	g := api.Geo{Pages: 64, Tx: 24}
	room := wide(100, 5)
	was := slices.Clone(room)
	for k := range 3 {
		super.Block(g, k, room[:sealed(g)])
	}
	if !slices.Equal(room, was) {
		t.Error("Block changed the epochs")
	}
	whole := bytes.Join(epochBlocks(was[:96]), nil)
	bytesWere := slices.Clone(whole)
	super.Epochs(g, whole[:256], whole[256:512], whole[512:768])
	super.Parse(whole[:256])
	if !bytes.Equal(whole, bytesWere) {
		t.Error("Epochs or Parse changed a block")
	}
}

// Rules 4 and 5: an answer shares no memory with another one, nor with what is handed in.
func TestCopies(t *testing.T) {
	g := api.Geo{Pages: 31, Tx: 4}
	a, _ := super.Bytes(g)
	b, _ := super.Bytes(g)
	a = append(a[:0], make([]byte, cap(a))...)
	if c, _ := super.Bytes(g); !bytes.Equal(b, words(g)) || !bytes.Equal(c, words(g)) {
		t.Error("Bytes shares its answers")
	}
	epochs := wide(sealed(g), 6)
	want := epochBlocks(epochs)
	x, _ := super.Block(g, 0, epochs)
	y, _ := super.Block(g, 1, epochs)
	epochs[0], epochs[32] = 7, 7
	clear(x[:cap(x)])
	if !bytes.Equal(y, want[1]) {
		t.Error("Block shares its answers, or what it was given")
	}
	l, _ := super.Epochs(g, want...)
	m, _ := super.Epochs(g, want...)
	clear(want[0])
	clear(m[:cap(m)])
	if !slices.Equal(l, wide(sealed(g), 6)) {
		t.Error("Epochs shares its answers, or what it was given")
	}
}
