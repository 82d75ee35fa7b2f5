package meta_test

import (
	"bytes"
	"encoding/binary"
	"math"
	"math/rand/v2"
	"slices"
	"testing"

	"garderobe/api"
	"garderobe/handle"
	"garderobe/meta"
	"garderobe/pages"
)

const maxSerial = 281474976710655 // 2^48 - 1

// goods are all geometries that may be, of one Tx each.
func goods() []api.Geo {
	var l []api.Geo
	for n := 1; n <= 64; n++ {
		l = append(l, api.Geo{Pages: n, Tx: 4 + n%21})
	}
	return l
}

// bads are geometries that may not be.
func bads() []api.Geo {
	l := []api.Geo{{}, {Pages: 4, Tx: 3}, {Pages: 4, Tx: 25}, {Pages: 20}, {Pages: 20, Tx: -4}, {Pages: 4, Tx: math.MaxInt}, {Pages: 4, Tx: math.MinInt}}
	for _, n := range []int{math.MinInt, -65536, -16, -1, 0, 65, 80, 256, 65537, 1 << 32, 1<<32 + 1, math.MaxInt} {
		l = append(l, api.Geo{Pages: n, Tx: 4}, api.Geo{Pages: n, Tx: n})
	}
	return l
}

// maps is how many blocks tell of so many pages, sixteen each.
func maps(n int) int {
	many := 0
	for 16*many < n {
		many++
	}
	return many
}

// slots, tail and head are pages of each kind, by the words.
func slots(c int) pages.Page { return pages.Page{Kind: 1, Class: c} }
func tail() pages.Page       { return pages.Page{Kind: 3} }
func head(size int, serial uint64) pages.Page {
	return pages.Page{Kind: 2, Run: (size + 255) / 256, Size: size, Serial: serial}
}

// great is the pages of an object.
func great(size int, serial uint64) []pages.Page {
	p := head(size, serial)
	return append([]pages.Page{p}, slices.Repeat([]pages.Page{tail()}, p.Run-1)...)
}

// is tells whether a page is one of the four, by the words.
func is(p pages.Page) bool {
	switch p.Kind {
	case 0, 3:
		return p == pages.Page{Kind: p.Kind}
	case 1:
		return p == slots(p.Class) && p.Class >= 0 && p.Class <= 7
	case 2:
		return p.Size >= 121 && p.Size <= 4096 && p == head(p.Size, p.Serial) && p.Serial >= 1 && p.Serial <= maxSerial
	}
	return false
}

// root tells whether a number may be a root, by the words.
func root(h handle.Handle) bool {
	return h == 0 || h>>56 < 64 && h>>48&255 < 16 && h&maxSerial > 0
}

// may tells whether there may be such a Meta of n pages, by the words.
func may(n int, m meta.Meta) bool {
	if len(m.Pages) != n || m.Roots.Next < 1 || m.Roots.Next > maxSerial+1 {
		return false
	}
	for _, h := range m.Roots.L {
		if !root(h) {
			return false
		}
	}
	behind := map[int]bool{} // the pages where there must be Tails
	for k, p := range m.Pages {
		if !is(p) || p.Kind == 2 && p.Serial >= m.Roots.Next {
			return false
		}
		for i := 1; p.Kind == 2 && i < p.Run; i++ {
			behind[k+i] = true
		}
	}
	for k, p := range m.Pages {
		if (p.Kind == 3) != behind[k] {
			return false
		}
		delete(behind, k)
	}
	return len(behind) == 0
}

// pageBytes is a page in a block.
func pageBytes(p pages.Page) []byte {
	b := []byte{byte(p.Kind), byte(p.Class)}
	b = binary.LittleEndian.AppendUint16(b, uint16(p.Run))
	b = binary.LittleEndian.AppendUint32(b, uint32(p.Size))
	return binary.LittleEndian.AppendUint64(b, p.Serial)
}

// blocks is a Meta as blocks, by the words, whether it may be or not.
func blocks(m meta.Meta) [][]byte {
	first := binary.LittleEndian.AppendUint64(nil, m.Roots.Next)
	for _, h := range m.Roots.L {
		first = binary.LittleEndian.AppendUint64(first, uint64(h))
	}
	l := [][]byte{append(first, make([]byte, 120)...)}
	var all []byte
	for _, p := range m.Pages {
		all = append(all, pageBytes(p)...)
	}
	all = append(all, make([]byte, 256*maps(len(m.Pages))-len(all))...)
	for at := 0; at < len(all); at += 256 {
		l = append(l, all[at:at+256])
	}
	return l
}

// told is what blocks of 256 bytes tell of n pages, by the words; false: they are those of no Meta.
func told(n int, l [][]byte) (meta.Meta, bool) {
	m := meta.Meta{Roots: handle.Roots{Next: binary.LittleEndian.Uint64(l[0])}}
	for k := range m.Roots.L {
		m.Roots.L[k] = handle.Handle(binary.LittleEndian.Uint64(l[0][8+8*k:]))
	}
	all := slices.Concat(l[1:]...)
	for k := range n {
		b := all[16*k:]
		m.Pages = append(m.Pages, pages.Page{
			Kind: int(b[0]), Class: int(b[1]), Run: int(binary.LittleEndian.Uint16(b[2:])),
			Size: int(binary.LittleEndian.Uint32(b[4:])), Serial: binary.LittleEndian.Uint64(b[8:]),
		})
	}
	if !slices.EqualFunc(blocks(m), l, bytes.Equal) {
		return meta.Meta{}, false
	}
	if bytes.Equal(l[0], make([]byte, 256)) {
		m.Roots.Next = 1
	}
	return m, may(n, m)
}

// some is a Meta of n pages that may be, with all kinds of pages and roots, others of each seed.
func some(n int, seed uint64) meta.Meta {
	r := rand.New(rand.NewPCG(seed, 5))
	var m meta.Meta
	m.Roots.Next = 2 + r.Uint64N(maxSerial)>>r.IntN(48)
	for k := range m.Roots.L {
		if r.IntN(3) > 0 {
			m.Roots.L[k] = handle.Handle(r.Uint64N(64)<<56 | r.Uint64N(16)<<48 | 1 + r.Uint64N(maxSerial))
		}
	}
	for left := n; left > 0; left = n - len(m.Pages) {
		switch r.IntN(3) {
		case 0:
			m.Pages = append(m.Pages, slots(r.IntN(8)))
		case 1:
			if size := 121 + r.IntN(min(4096, 256*left)-120); r.IntN(2) > 0 {
				m.Pages = append(m.Pages, great(size, 1+r.Uint64N(m.Roots.Next-1))...)
			}
		case 2:
			m.Pages = append(m.Pages, make([]pages.Page, min(left, 1+r.IntN(4)))...)
		}
	}
	return m
}

// of is a Meta of that next serial, and of n pages: those of the parts, and free ones behind them.
func of(n int, next uint64, parts ...[]pages.Page) meta.Meta {
	l := append(slices.Concat(parts...), make([]pages.Page, n)...)
	return meta.Meta{Roots: handle.Roots{Next: next}, Pages: l[:n]}
}

// clone is a Meta that shares no memory with m.
func clone(m meta.Meta) meta.Meta { return meta.Meta{Roots: m.Roots, Pages: slices.Clone(m.Pages)} }

// alike tells whether all of two Metas is the same.
func alike(a, b meta.Meta) bool { return a.Roots == b.Roots && slices.Equal(a.Pages, b.Pages) }

// nothing tells whether a Meta is the zero one.
func nothing(m meta.Meta) bool { return m.Roots == (handle.Roots{}) && len(m.Pages) == 0 }

// held fails unless Blocks, and Parse of what the blocks would be, say of a Meta what they should; g may be.
func held(t *testing.T, what string, g api.Geo, m meta.Meta) {
	t.Helper()
	got, e := meta.Blocks(g, m)
	if !may(g.Pages, m) {
		if e != api.ErrArg || len(got) != 0 {
			t.Errorf("%s: Blocks: error %d, %d blocks; it may not be", what, e, len(got))
		}
		return
	}
	if e != api.OK || !slices.EqualFunc(got, blocks(m), bytes.Equal) {
		t.Errorf("%s: Blocks: error %d, %x", what, e, got)
	}
	parsed(t, what, g, blocks(m))
}

// parsed fails unless Parse says of blocks, 256 bytes each, what it should.
func parsed(t *testing.T, what string, g api.Geo, l [][]byte) {
	t.Helper()
	m, e := meta.Parse(g, l...)
	want, ok := told(g.Pages, l)
	switch {
	case ok && (e != api.OK || !alike(m, want)):
		t.Errorf("%s: Parse: %v, error %d; not %v", what, m, e, want)
	case !ok && (e != api.ErrForm || !nothing(m)):
		t.Errorf("%s: Parse: %v, error %d; these are blocks of no Meta", what, m, e)
	}
}
