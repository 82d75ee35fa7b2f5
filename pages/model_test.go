package pages_test

import (
	"encoding/binary"
	"math"
	"math/rand"
	"slices"
	"testing"

	"garderobe/api"
	"garderobe/pages"
)

const maxSerial = 281474976710655 // 2^48 - 1

// free, slots, head and tail are pages of each kind, by the words.
func free() pages.Page       { return pages.Page{} }
func slots(c int) pages.Page { return pages.Page{Kind: 1, Class: c} }
func tail() pages.Page       { return pages.Page{Kind: 3} }
func head(size int, serial uint64) pages.Page {
	return pages.Page{Kind: 2, Run: takes(size), Size: size, Serial: serial}
}

// takes is how many pages so many bytes, from 121 to 4096, take.
func takes(size int) int {
	n := 0
	for 256*n < size {
		n++
	}
	return n
}

// great is the pages of an object.
func great(size int, serial uint64) []pages.Page {
	l := []pages.Page{head(size, serial)}
	for len(l) < takes(size) {
		l = append(l, tail())
	}
	return l
}

// frees are n free pages.
func frees(n int) []pages.Page { return make([]pages.Page, n) }

// row is some pages behind others.
func row(parts ...[]pages.Page) []pages.Page { return slices.Concat(parts...) }

// is tells whether a page is one of the four, by the words.
func is(p pages.Page) bool {
	switch p.Kind {
	case 0, 3:
		return p.Class == 0 && p.Run == 0 && p.Size == 0 && p.Serial == 0
	case 1:
		return p.Class >= 0 && p.Class <= 7 && p.Run == 0 && p.Size == 0 && p.Serial == 0
	case 2:
		return p.Class == 0 && p.Size >= 121 && p.Size <= 4096 && p.Run == takes(p.Size) && p.Serial >= 1 && p.Serial <= maxSerial
	}
	return false
}

// may tells whether pages may be, by the words.
func may(l []pages.Page) bool {
	if len(l) > 64 {
		return false
	}
	behind := map[int]bool{} // the pages where there must be Tails
	for k, p := range l {
		if !is(p) {
			return false
		}
		for i := 1; p.Kind == 2 && i < p.Run; i++ {
			behind[k+i] = true
		}
	}
	tails := 0
	for k, p := range l {
		if (p.Kind == 3) != behind[k] {
			return false
		}
		if p.Kind == 3 {
			tails++
		}
	}
	return tails == len(behind)
}

// block is sixteen pages as a block, by the words, whether they may be or not.
func block(l []pages.Page) []byte {
	var b []byte
	for _, p := range l {
		b = append(b, byte(p.Kind), byte(p.Class))
		b = binary.LittleEndian.AppendUint16(b, uint16(p.Run))
		b = binary.LittleEndian.AppendUint32(b, uint32(p.Size))
		b = binary.LittleEndian.AppendUint64(b, p.Serial)
	}
	return append(b, make([]byte, 256)...)[:256]
}

// sixteen is what a block tells, and whether each of it is one of the four.
func sixteen(b []byte) ([]pages.Page, bool) {
	var l []pages.Page
	ok := true
	for at := 0; at < 256; at += 16 {
		p := pages.Page{
			Kind: int(b[at]), Class: int(b[at+1]),
			Run: int(binary.LittleEndian.Uint16(b[at+2:])), Size: int(binary.LittleEndian.Uint32(b[at+4:])),
			Serial: binary.LittleEndian.Uint64(b[at+8:]),
		}
		ok = ok && is(p)
		l = append(l, p)
	}
	return l, ok
}

// runs is all runs, by the words: pages k to k + n - 1 are free, and none ahead and behind.
func runs(l []pages.Page) []pages.Run {
	var out []pages.Run
	isFree := func(k int) bool { return k >= 0 && k < len(l) && l[k] == free() }
	for k := range l {
		if isFree(k) && !isFree(k-1) {
			n := 1
			for isFree(k + n) {
				n++
			}
			out = append(out, pages.Run{At: k, N: n})
		}
	}
	return out
}

// first is the least place behind which there are n free pages, one behind the other.
func first(l []pages.Page, n int) (int, bool) {
	for k := range l {
		if n >= 1 && n <= len(l)-k && !slices.ContainsFunc(l[k:k+n], func(p pages.Page) bool { return p != free() }) {
			return k, true
		}
	}
	return 0, false
}

// take, give and turn do what the words say, one error behind the other.
func take(l []pages.Page, at, size int, serial uint64) ([]pages.Page, api.Errno) {
	if !may(l) {
		return nil, api.ErrForm
	}
	if size < 121 || size > 4096 || serial == 0 || serial > maxSerial {
		return nil, api.ErrArg
	}
	if at < 0 || at > 64 || at+takes(size) > len(l) {
		return nil, api.ErrRange
	}
	for k := range takes(size) {
		if l[at+k].Kind != 0 {
			return nil, api.ErrThere
		}
	}
	return row(l[:at], great(size, serial), l[at+takes(size):]), api.OK
}

func give(l []pages.Page, at int) ([]pages.Page, api.Errno) {
	if !may(l) {
		return nil, api.ErrForm
	}
	if at < 0 || at >= len(l) || l[at].Kind != 2 {
		return nil, api.ErrNone
	}
	return row(l[:at], frees(l[at].Run), l[at+l[at].Run:]), api.OK
}

func turn(l []pages.Page, at, class int) ([]pages.Page, api.Errno) {
	if !may(l) {
		return nil, api.ErrForm
	}
	if at < 0 || at >= len(l) {
		return nil, api.ErrRange
	}
	p := slots(class)
	switch {
	case class == -1 && l[at].Kind != 1:
		return nil, api.ErrNone
	case class == -1:
		p = free()
	case class < 0 || class > 7:
		return nil, api.ErrArg
	case l[at].Kind != 0:
		return nil, api.ErrThere
	}
	return row(l[:at], []pages.Page{p}, l[at+1:]), api.OK
}

// some is n pages that may be, of all kinds, others of each seed.
func some(n int, seed int64) []pages.Page {
	r := rand.New(rand.NewSource(seed))
	var l []pages.Page
	for len(l) < n {
		switch r.Intn(3) {
		case 0:
			l = append(l, slots(r.Intn(8)))
		case 1:
			if size := 121 + r.Intn(1000); takes(size) <= n-len(l) {
				l = append(l, great(size, 1+uint64(r.Int63n(maxSerial)))...)
			}
		case 2:
			l = append(l, frees(min(1+r.Intn(4), n-len(l)))...)
		}
	}
	return l
}

// letters are pages of each kind that may be, and some that are none.
func letters() []pages.Page {
	return []pages.Page{free(), slots(3), head(200, 1), head(300, maxSerial), head(700, 9), tail(), {Kind: 0, Class: 1}, {Kind: 2, Run: 2, Size: 256, Serial: 1}}
}

// each calls f with all rows of n letters.
func each(n int, f func(l []pages.Page)) {
	if n == 0 {
		f(nil)
		return
	}
	each(n-1, func(l []pages.Page) {
		for _, p := range letters() {
			f(row(l, []pages.Page{p}))
		}
	})
}

// far are numbers that are no page, no class, no number of pages in a run; the lowest bits of some are those of one that is.
func far() []int {
	return []int{math.MinInt, math.MinInt + 1, math.MinInt + 2, math.MinInt32, -1 << 32, -1<<32 + 1, -1<<32 + 300, -65536, -65535, -4096, -300, -257, -256, -255, -16, -9, -8, -2,
		65, 255, 65536, 65537, 65536 + 300, 1 << 31, 1 << 32, 1<<32 + 1, 1<<32 + 300, 1 << 48, 1 << 60, 1<<62 + 1, math.MaxInt - 300, math.MaxInt - 16, math.MaxInt - 2, math.MaxInt - 1, math.MaxInt}
}

// noSerials are serials that may not be; the lowest bits of some are those of one that may.
func noSerials() []uint64 {
	return []uint64{0, maxSerial + 1, maxSerial + 2, 1 << 49, 1<<49 + 1, 1<<56 + 1, 1 << 63, 1<<63 + 1, math.MaxInt64, math.MaxUint64 - 1, math.MaxUint64}
}

// serials are serials that may be.
func serials() []uint64 {
	return []uint64{1, 2, 255, 256, 65536, 1 << 32, 1<<32 + 1, 1 << 47, maxSerial - 1, maxSerial}
}

// answer is what a call answered.
type answer struct {
	l []pages.Page
	e api.Errno
}

// got puts what a call, or the model's, answered into one thing.
func got(l []pages.Page, e api.Errno) answer { return answer{l, e} }

// same fails unless an answer is the wanted one: with an error nothing, else pages that may be.
func same(t *testing.T, what string, a, want answer) {
	t.Helper()
	if a.e != want.e || !slices.Equal(a.l, want.l) {
		t.Fatalf("%s: %v, error %d; not %v, error %d", what, a.l, a.e, want.l, want.e)
	}
	if a.e == api.OK && (!may(a.l) || pages.Check(a.l) != api.OK) {
		t.Fatalf("%s: %v may not be", what, a.l)
	}
}

// says fails unless an answer is that error, and nothing beside it.
func says(t *testing.T, what string, l []pages.Page, e, want api.Errno) {
	t.Helper()
	if e != want || len(l) != 0 {
		t.Errorf("%s: %v, error %d; not %d", what, l, e, want)
	}
}
