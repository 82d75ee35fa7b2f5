package slot_test

import (
	"bytes"
	"encoding/binary"
	"math"
	"math/rand"
	"slices"
	"testing"

	"garderobe/api"
	"garderobe/slot"
)

// sizes are the classes' bytes, by the words.
var sizes = []int{8, 16, 24, 32, 48, 64, 96, 120}

// wide and many are how many bytes a slot of a class has, and how many slots its page.
func wide(c int) int { return sizes[c] + 8 }
func many(c int) int { return 256 / wide(c) }

const maxSerial = 281474976710655 // 2^48 - 1

// thing is what a slot has: the zero thing, if it is free.
type thing struct {
	serial uint64
	b      []byte
}

// page is the bytes of a page whose first slots have these things, by the words.
func page(c int, l ...thing) []byte {
	p := make([]byte, 256)
	for k, x := range l {
		if len(x.b) == 0 {
			continue
		}
		s := p[k*wide(c):]
		binary.LittleEndian.PutUint64(s, uint64(len(x.b))|x.serial<<16)
		copy(s[8:], x.b)
	}
	return p
}

// things is what a page has slot by slot, and whether it may be of a class, by the words.
func things(p []byte, c int) ([]thing, bool) {
	if len(p) != 256 || c < 0 || c > 7 {
		return nil, false
	}
	l := make([]thing, many(c))
	for k := range l {
		s := p[k*wide(c) : (k+1)*wide(c)]
		n := int(binary.LittleEndian.Uint16(s))
		serial := binary.LittleEndian.Uint64(s) >> 16
		if n == 0 && serial == 0 {
			if !empty(s) {
				return nil, false
			}
			continue
		}
		if n < 1 || n > sizes[c] || serial == 0 || !empty(s[8+n:]) {
			return nil, false
		}
		l[k] = thing{serial, s[8 : 8+n]}
	}
	if !empty(p[many(c)*wide(c):]) {
		return nil, false
	}
	return l, true
}

// empty tells whether b has noughts only.
func empty(b []byte) bool { return len(bytes.Trim(b, "\x00")) == 0 }

// used is how many things there are.
func used(l []thing) int {
	n := 0
	for _, x := range l {
		if len(x.b) > 0 {
			n++
		}
	}
	return n
}

// model is what the slots of a page of a class have; its calls do what the words say, and tell the error.
type model struct {
	c int
	l []thing
}

func (m model) there(k int) bool { return k >= 0 && k < len(m.l) && len(m.l[k].b) > 0 }

func (m model) take(serial uint64, n int) (int, api.Errno) {
	if serial == 0 || serial > maxSerial || n < 1 || n > sizes[m.c] {
		return 0, api.ErrArg
	}
	for k := range m.l {
		if !m.there(k) {
			m.l[k] = thing{serial, make([]byte, n)}
			return k, api.OK
		}
	}
	return 0, api.ErrFull
}

func (m model) free(k int) api.Errno {
	if !m.there(k) {
		return api.ErrNone
	}
	m.l[k] = thing{}
	return api.OK
}

func (m model) resize(k, n int) api.Errno {
	if !m.there(k) {
		return api.ErrNone
	}
	if n < 1 || n > sizes[m.c] {
		return api.ErrArg
	}
	b := make([]byte, n)
	copy(b, m.l[k].b)
	m.l[k].b = b
	return api.OK
}

func (m model) write(k, at int, b []byte) api.Errno {
	if !m.there(k) {
		return api.ErrNone
	}
	was := m.l[k].b
	if at < 0 || at+len(b) > len(was) {
		return api.ErrRange
	}
	m.l[k].b = slices.Concat(was[:at], b, was[at+len(b):])
	return api.OK
}

// filled are n bytes, all unlike nought.
func filled(n int, seed int) []byte {
	b := make([]byte, n)
	for k := range b {
		b[k] = byte((seed+7*k)%255 + 1)
	}
	return b
}

// full is a page all of whose slots have as many bytes as the class, and great serials.
func full(c int) []byte {
	var l []thing
	for k := range many(c) {
		l = append(l, thing{maxSerial - uint64(k), filled(sizes[c], k)})
	}
	return page(c, l...)
}

// some is a page with objects of several lengths, of noughts and of other bytes, with free slots between them.
func some(c int, seed int64) []byte {
	r := rand.New(rand.NewSource(seed))
	l := make([]thing, many(c))
	for k := range l {
		if r.Intn(3) == 0 {
			continue
		}
		b := make([]byte, 1+r.Intn(sizes[c]))
		if r.Intn(4) > 0 {
			r.Read(b)
		}
		l[k] = thing{1 + uint64(r.Int63n(maxSerial)), b}
	}
	return page(c, l...)
}

// kinds are pages of a class that may be: empty, full, in between.
func kinds(c int) [][]byte {
	l := [][]byte{page(c), full(c), page(c, thing{1, []byte{0}}), page(c, thing{}, thing{maxSerial, make([]byte, sizes[c])})}
	for seed := range 3 {
		l = append(l, some(c, int64(8*seed+c)))
	}
	return l
}

// far are numbers that are no class, no slot, no place, no length; the lowest bits of some are those of one that is.
func far() []int {
	return []int{math.MinInt, math.MinInt + 1, math.MinInt + 8, math.MinInt32, -1 << 32, -1<<32 + 1, -65536, -65535, -256, -255, -8, -2, -1,
		256, 257, 4096, 65536, 65537, 1 << 31, 1 << 32, 1<<32 + 1, 1 << 48, 1<<48 + 1, 1 << 60, 1<<62 + 1, math.MaxInt - 8, math.MaxInt - 1, math.MaxInt}
}

// noSlots are numbers of slots that a class has not.
func noSlots(c int) []int { return append(far(), many(c), many(c)+1, 16, 17, 31, 32, -16) }

// ok fails unless a page was answered that may be, and is as it should be.
func ok(t *testing.T, what string, c int, p []byte, e api.Errno, want []byte) {
	t.Helper()
	if e != api.OK || !bytes.Equal(p, want) {
		t.Fatalf("%s, class %d: % x, error %d; not % x", what, c, p, e, want)
	}
	if e := slot.Check(p, c); e != api.OK {
		t.Fatalf("%s, class %d: what was answered may not be", what, c)
	}
}

// refused fails unless all calls that change a page, and Get, say ErrForm of it, whatever else is asked of them.
func refused(t *testing.T, what string, p []byte, c int) {
	t.Helper()
	if e := slot.Check(p, c); e != api.ErrForm {
		t.Errorf("%s, class %d: Check says %d", what, c, e)
	}
	if n := slot.Used(p, c); n != 0 {
		t.Errorf("%s, class %d: Used is %d", what, c, n)
	}
	for _, k := range []int{0, 1, -1, 99, math.MinInt, math.MaxInt} {
		got := []answer{
			take(p, c, 1, 1), take(p, c, uint64(k), k), take(p, c, 0, 0), take(p, c, 1<<48, 1),
			free(p, c, k), resize(p, c, k, 1), resize(p, c, k, 0), resize(p, c, k, k),
			write(p, c, k, 0, nil), write(p, c, k, -1, []byte{1}), write(p, c, k, k, []byte{1}), get(p, c, k),
		}
		for i, a := range got {
			if a.e != api.ErrForm || !a.nothing() {
				t.Errorf("%s, class %d: call %d of slot %d: %+v", what, c, i, k, a)
			}
		}
	}
}

// answer is what a call answered.
type answer struct {
	p      []byte
	k      int
	serial uint64
	e      api.Errno
}

// nothing tells whether all is zero beside the error.
func (a answer) nothing() bool { return len(a.p) == 0 && a.k == 0 && a.serial == 0 }

func take(p []byte, c int, serial uint64, n int) answer {
	q, k, e := slot.Take(p, c, serial, n)
	return answer{p: q, k: k, e: e}
}

func free(p []byte, c, k int) answer {
	q, e := slot.Free(p, c, k)
	return answer{p: q, e: e}
}

func resize(p []byte, c, k, n int) answer {
	q, e := slot.Resize(p, c, k, n)
	return answer{p: q, e: e}
}

func write(p []byte, c, k, at int, b []byte) answer {
	q, e := slot.Write(p, c, k, at, b)
	return answer{p: q, e: e}
}

func get(p []byte, c, k int) answer {
	serial, b, e := slot.Get(p, c, k)
	return answer{p: b, serial: serial, e: e}
}

// says fails unless an answer is that error, and nothing beside it.
func says(t *testing.T, what string, a answer, e api.Errno) {
	t.Helper()
	if a.e != e || !a.nothing() {
		t.Errorf("%s: %+v; not error %d", what, a, e)
	}
}
