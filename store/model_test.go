package store_test

import (
	"bytes"
	standard "crypto/aes"
	"crypto/sha256"
	"encoding/binary"
	"math/rand/v2"
	"slices"
	"testing"

	"garderobe/aes"
	"garderobe/api"
	"garderobe/book"
	"garderobe/gf"
	"garderobe/logf"
	"garderobe/nvm"
	"garderobe/seal"
	"garderobe/sha"
	"garderobe/store"
	"garderobe/tree"
	"garderobe/trust"
)

// text is n bytes, others of each seed.
func text(seed uint64, n int) []byte {
	r, b := rand.New(rand.NewPCG(seed, 1)), make([]byte, n)
	for k := range b {
		b[k] = byte(r.Uint32())
	}
	return b
}

func key() []byte { return text(999, 32) }

// plan is where everything stands, by the words of layer 7.
type plan struct{ pages, tx int }

func (p plan) geo() api.Geo      { return api.Geo{Pages: p.pages, Tx: p.tx} }
func (p plan) sealed() int       { return 1 + (p.pages+15)/16 + p.pages }
func (p plan) epochs() int       { return (p.sealed() + 31) / 32 }
func (p plan) epochAt(k int) int { return 1 + k }
func (p plan) sealAt(k int) int  { return 1 + p.epochs() + k }
func (p plan) leaves() int       { return 1 + p.epochs() + p.sealed() }
func (p plan) logAt(k int) int   { return p.leaves() + k }
func (p plan) total() int        { return p.leaves() + 1 + p.tx }

// plans are geometries with one, two and three epoch blocks, just filled and just begun, with few and many blocks to a
// transaction.
func plans() []plan {
	return []plan{{1, 4}, {20, 4}, {29, 5}, {30, 6}, {58, 7}, {59, 9}, {60, 24}, {64, 24}}
}

// state is what a store is to have, worked out by the words, with other sums and another cipher.
type state struct {
	plan
	count  uint64
	plain  [][]byte
	epochs []uint64
}

// begun is a state of blocks of all kinds, each with an epoch of its own, none above count.
func begun(p plan, count uint64) state {
	s := state{plan: p, count: count}
	for k := range p.sealed() {
		s.plain = append(s.plain, text(uint64(k), 256))
		s.epochs = append(s.epochs, count-uint64(k*7%5))
	}
	return s
}

// with is the state behind a Commit.
func (s state) with(l []logf.Entry) state {
	s.plain, s.epochs, s.count = slices.Clone(s.plain), slices.Clone(s.epochs), s.count+1
	for _, x := range l {
		s.plain[x.K], s.epochs[x.K] = bytes.Clone(x.Data), s.count
	}
	return s
}

// hidden is a block as it is sealed.
func hidden(epoch uint64, k int, plain []byte) []byte {
	c, _ := standard.NewCipher(key())
	out := bytes.Clone(plain)
	for lane := range 16 {
		pad := binary.BigEndian.AppendUint64(nil, epoch)
		pad = binary.BigEndian.AppendUint32(pad, uint32(k))
		pad = append(binary.BigEndian.AppendUint16(pad, uint16(lane)), 0, 0)
		c.Encrypt(pad, pad)
		for i, b := range pad {
			out[16*lane+i] ^= b
		}
	}
	return out
}

// block is what a block of the leaves has on the device.
func (s state) block(at int) []byte {
	b := make([]byte, 256)
	switch {
	case at == 0:
		copy(b, "GARDROBE\x01\x00")
		b[10], b[12] = byte(s.pages), byte(s.tx)
	case at < s.sealAt(0):
		for k := 32 * (at - 1); k < min(32*at, len(s.epochs)); k++ {
			binary.LittleEndian.PutUint64(b[8*(k%32):], s.epochs[k])
		}
	default:
		k := at - s.sealAt(0)
		return hidden(s.epochs[k], k, s.plain[k])
	}
	return b
}

// leaf is the sum of a block of the leaves.
func (s state) leaf(at int) api.Digest {
	return sha256.Sum256(append([]byte{0, byte(at), 0, 0, 0}, s.block(at)...))
}

// list are all leaves.
func (s state) list() []api.Digest {
	var l []api.Digest
	for at := range s.leaves() {
		l = append(l, s.leaf(at))
	}
	return l
}

// root is the sum of all leaves.
func (s state) root() api.Digest {
	level := s.list()
	for len(level)&(len(level)-1) != 0 {
		level = append(level, api.Digest{})
	}
	for up := 1; len(level) > 1; up++ {
		var next []api.Digest
		for i := 0; i < len(level)/2; i++ {
			b := []byte{1, byte(up), byte(i), 0, 0, 0}
			next = append(next, sha256.Sum256(slices.Concat(b, level[2*i][:], level[2*i+1][:])))
		}
		level = next
	}
	return sha256.Sum256(append([]byte{2, byte(s.leaves()), 0, 0, 0}, level[0][:]...))
}

// reg is what the register is to hold.
func (s state) reg() api.Reg { return api.Reg{Count: s.count, Root: s.root()} }

// image is all bytes that are to last, with noughts in the log.
func (s state) image() []byte {
	var l []byte
	for at := range s.leaves() {
		l = append(l, s.block(at)...)
	}
	return append(l, make([]byte, 256*(1+s.tx))...)
}

// log are the blocks of the log of a Commit that leads to this state.
func (s state) log(l []logf.Entry) [][]byte {
	first := binary.LittleEndian.AppendUint64([]byte("REDO-LOG"), s.count)
	first = binary.LittleEndian.AppendUint16(first, uint16(len(l)))
	var rest [][]byte
	for _, x := range l {
		first = binary.LittleEndian.AppendUint16(first, uint16(x.K))
		rest = append(rest, hidden(s.count, x.K, x.Data))
	}
	return append([][]byte{append(first, make([]byte, 256-len(first))...)}, rest...)
}

// base is one of a geometry, of noughts.
func base(t *testing.T, g api.Geo, lines int, r api.Reg) store.Base {
	t.Helper()
	c, e := aes.New(gf.NewBox(), key())
	if e != api.OK {
		t.Fatal(e)
	}
	d := nvm.New(lines)
	return store.Base{D: d, T: trust.At(d, r), S: seal.New(c), B: book.New(sha.Make()), G: g}
}

// base is one on whose device a state stands.
func (s state) base(t *testing.T) store.Base {
	t.Helper()
	b := base(t, s.geo(), 4*s.total(), s.reg())
	if !b.D.Tamper(0, s.image()) {
		t.Fatal("no room on the device")
	}
	return b
}

// made is a store of a state, and its base.
func (s state) made(t *testing.T, write bool) (*store.Store, store.Base) {
	t.Helper()
	b := s.base(t)
	return over(t, s, b, write), b
}

// over is a store of a state over a base.
func over(t *testing.T, s state, b store.Base, write bool) *store.Store {
	t.Helper()
	x, e := store.New(b, s.epochs, s.tree(t, b.B), write)
	if e != api.OK || x == nil {
		t.Fatal("New", e)
	}
	return x
}

// tree is the tree of all leaves.
func (s state) tree(t *testing.T, b *book.Book) *tree.Tree {
	t.Helper()
	x, e := tree.New(b, s.list()...)
	if e != api.OK {
		t.Fatal(e)
	}
	return x
}

// change is an act, and what it stores.
type change struct {
	nvm.Act
	data []byte
}

// puts are the acts of a block that is put.
func puts(at int, data []byte) []change {
	return []change{{nvm.Act{Kind: nvm.Store, At: 256 * at, N: len(data)}, data}, {nvm.Act{Kind: nvm.Flush, At: 256 * at, N: len(data)}, nil}}
}

// acts are those of a Commit that leads to this state; set tells which one is the register's.
func (s state) acts(l []logf.Entry) (all []change, set int) {
	log := s.log(l)
	for k, data := range log {
		all = append(all, puts(s.logAt(k), data)...)
	}
	all = append(all, change{Act: nvm.Act{Kind: nvm.Fence}}, change{Act: nvm.Act{Kind: nvm.Other}})
	set = len(all)
	var concerned []int
	for _, x := range l {
		all = append(all, puts(s.sealAt(x.K), s.block(s.sealAt(x.K)))...)
		concerned = append(concerned, s.epochAt(x.K/32))
	}
	for _, at := range slices.Compact(concerned) {
		all = append(all, puts(at, s.block(at))...)
	}
	all = append(all, change{Act: nvm.Act{Kind: nvm.Fence}})
	all = append(all, puts(s.logAt(0), make([]byte, 256*len(log)))...)
	return append(all, change{Act: nvm.Act{Kind: nvm.Fence}}), set
}

// done are the bytes that last behind acts, and those that are stored.
func done(image []byte, l []change) (lasts, now []byte) {
	lasts, now = bytes.Clone(image), bytes.Clone(image)
	marked := map[int]bool{}
	for _, x := range l {
		switch x.Kind {
		case nvm.Store:
			copy(now[x.At:], x.data)
		case nvm.Flush:
			for k := x.At; k < x.At+x.N; k++ {
				marked[k] = true
			}
		case nvm.Fence:
			for k := range marked {
				lasts[k] = now[k]
			}
			clear(marked)
		}
	}
	return lasts, now
}

// told are acts as the device keeps them.
func told(l []change) []nvm.Act {
	var out []nvm.Act
	for _, x := range l {
		out = append(out, x.Act)
	}
	return out
}

// entries are some with those numbers, of other bytes of each seed.
func entries(seed uint64, numbers ...int) []logf.Entry {
	var l []logf.Entry
	for _, k := range numbers {
		l = append(l, logf.Entry{K: k, Data: text(seed*1000+uint64(k), 256)})
	}
	return l
}

// apart are lists of numbers that a Commit may have: one, some, as many as may be, at all ends.
func (p plan) apart() [][]int {
	n := p.sealed()
	var all, ends []int
	for k := range min(p.tx, n) {
		all = append(all, k)
		ends = append([]int{n - 1 - k}, ends...)
	}
	l := [][]int{{0}, {n - 1}, {0, n - 1}, {0, 1, n - 1}, all, ends}
	if n > 33 {
		l = append(l, []int{31, 32}, []int{0, 31, 32, 33}, []int{30, 31}, []int{32})
	}
	if n > 65 {
		l = append(l, []int{31, 32, 63, 64}, []int{1, 64}, []int{63, 65})
	}
	return l
}
