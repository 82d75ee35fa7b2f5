package batch_test

import (
	"bytes"
	"math"
	"math/rand/v2"
	"slices"
	"testing"

	"garderobe/aes"
	"garderobe/api"
	"garderobe/batch"
	"garderobe/book"
	"garderobe/gf"
	"garderobe/logf"
	"garderobe/mend"
	"garderobe/nvm"
	"garderobe/seal"
	"garderobe/sha"
	"garderobe/store"
	"garderobe/trust"
)

// text is a block, or n bytes, others of each seed.
func text(seed uint64, n int) []byte {
	r, b := rand.New(rand.NewPCG(seed, 3)), make([]byte, n)
	for k := range b {
		b[k] = byte(r.Uint32())
	}
	return b
}

func block(seed uint64) []byte { return text(seed, 256) }

// small has sealed blocks for the head, one map and four pages.
func small() api.Geo { return api.Geo{Pages: 4, Tx: 6} }

const (
	sealed   = 6  // sealed blocks of small
	sealedAt = 2  // the first one on the device
	total    = 15 // blocks of the device
)

// far are numbers that no block has; the lowest bits of some are those of one that is.
func far() []int {
	return []int{math.MinInt, math.MinInt + 1, math.MinInt + 3, -1 << 32, -1<<32 + 3, -65536, -65535, -65533, -256, -2, -1,
		65536, 65537, 65539, 1 << 17, 1 << 31, 1 << 32, 1<<32 + 3, 1 << 48, 1<<62 + 3, math.MaxInt - 1, math.MaxInt}
}

// world is a base of small, behind a Format and a Commit of all its blocks, with the store that is open.
type world struct {
	t     *testing.T
	base  store.Base
	s     *store.Store
	plain [][]byte // the sealed blocks as they were committed last
	acts  int      // of the device, ahead of the store's
	image []byte   // what lasts behind Open
	reg   api.Reg  // what the register holds behind Open
}

// made is a world, for writing or for reading alone.
func made(t *testing.T, write bool) *world {
	t.Helper()
	c, e := aes.New(gf.NewBox(), text(99, 16))
	if e != api.OK {
		t.Fatal(e)
	}
	d := nvm.New(4 * total)
	w := &world{t: t, base: store.Base{D: d, T: trust.New(d), S: seal.New(c), B: book.New(sha.Make()), G: small()}}
	if e := mend.Format(w.base); e != api.OK {
		t.Fatal("Format", e)
	}
	w.open(true)
	var l []logf.Entry
	for k := range sealed {
		w.plain = append(w.plain, block(uint64(k)))
		l = append(l, logf.Entry{K: k, Data: block(uint64(k))})
	}
	if e := w.s.Commit(l...); e != api.OK {
		t.Fatal("Commit", e)
	}
	w.open(write)
	return w
}

// open opens the store, and notes how all stands behind that.
func (w *world) open(write bool) {
	w.t.Helper()
	s, e := mend.Open(w.base, write)
	if e != api.OK {
		w.t.Fatal("Open", e)
	}
	w.s, w.acts, w.image, w.reg = s, len(w.base.D.Acts()), w.base.D.Image(), w.base.T.Read()
}

// idle fails if something was done to the base since it was opened, but reading.
func (w *world) idle(what string) {
	w.t.Helper()
	if n := len(w.base.D.Acts()); n != w.acts || w.base.D.Pending() != 0 || !bytes.Equal(w.base.D.Image(), w.image) || w.base.T.Read() != w.reg {
		w.t.Errorf("%s: %d acts, or what lasts is another one", what, n-w.acts)
	}
}

// spoil turns a bit of a sealed block.
func (w *world) spoil(k int) {
	at := 256*(sealedAt+k) + 7
	b, _ := w.base.D.Load(at, 1)
	w.base.D.Tamper(at, []byte{b[0] ^ 4})
}

// lasts fails unless the store, opened again, has the blocks.
func (w *world) lasts(what string, plain [][]byte) {
	w.t.Helper()
	s, e := mend.Open(w.base, false)
	if e != api.OK {
		w.t.Fatal(what, "Open", e)
	}
	for k, want := range plain {
		if got, e := s.Read(k); e != api.OK || !bytes.Equal(got, want) {
			w.t.Errorf("%s: block %d is %x, error %d", what, k, got, e)
		}
	}
}

// model is a batch by the words.
type model struct {
	most   int
	blocks map[int][]byte
}

// put is what Put answers and does, of a store that is well.
func (m *model) put(k int, data []byte) api.Errno {
	if len(data) != 256 {
		return api.ErrArg
	}
	if k < 0 || k > 65535 {
		return api.ErrRange
	}
	if m.blocks[k] == nil && len(m.blocks) >= max(m.most, 0) {
		return api.ErrTxFull
	}
	if m.blocks == nil {
		m.blocks = map[int][]byte{}
	}
	m.blocks[k] = bytes.Clone(data)
	return api.OK
}

// copy is one that stands alike.
func (m *model) copy() *model {
	o := &model{most: m.most, blocks: map[int][]byte{}}
	for k, data := range m.blocks {
		o.blocks[k] = bytes.Clone(data)
	}
	return o
}

// keys are the numbers of the blocks.
func (m *model) keys() []int {
	var l []int
	for k := range m.blocks {
		l = append(l, k)
	}
	slices.Sort(l)
	return l
}

// get is what Get answers, of a store that is well and has the blocks of plain.
func (m *model) get(k int, plain [][]byte) ([]byte, api.Errno) {
	if data, ok := m.blocks[k]; ok {
		return data, api.OK
	}
	if k < 0 || k >= len(plain) {
		return nil, api.ErrRange
	}
	return plain[k], api.OK
}

// commit is what Commit answers of a store for writing that is well, and what its blocks are then.
func (m *model) commit(plain [][]byte) ([][]byte, api.Errno) {
	if len(m.blocks) > small().Tx {
		return plain, api.ErrTxFull
	}
	out := slices.Clone(plain)
	for k, data := range m.blocks {
		if k >= len(plain) {
			return plain, api.ErrArg
		}
		out[k] = data
	}
	m.blocks = nil
	return out, api.OK
}

// stands fails unless a batch tells what the model says, by all calls that change nothing.
func stands(t *testing.T, what string, b *batch.Batch, m *model, plain [][]byte) {
	t.Helper()
	if b.Len() != len(m.blocks) || !slices.Equal(b.Keys(), m.keys()) {
		t.Fatalf("%s: %d blocks, %v; not %v", what, b.Len(), b.Keys(), m.keys())
	}
	asked := append(far(), m.keys()...)
	for k := range sealed + 3 {
		asked = append(asked, k)
	}
	for _, k := range asked {
		want, f := m.get(k, plain)
		if got, e := b.Get(k); e != f || !bytes.Equal(got, want) {
			t.Fatalf("%s: Get of %d: %x, error %d; not %x, error %d", what, k, got, e, want, f)
		}
	}
}
