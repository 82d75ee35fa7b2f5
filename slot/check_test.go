package slot_test

import (
	"bytes"
	"math"
	"slices"
	"testing"

	"garderobe/api"
	"garderobe/slot"
)

// P18.1: pages that may be, and how many slots of them are not free.
func TestCheckAndUsed(t *testing.T) {
	for c := range sizes {
		for i, p := range kinds(c) {
			l, may := things(p, c)
			if !may {
				t.Fatal("the test's own page may not be")
			}
			if e := slot.Check(p, c); e != api.OK {
				t.Errorf("class %d, page %d: Check says %d", c, i, e)
			}
			if n := slot.Used(p, c); n != used(l) {
				t.Errorf("class %d, page %d: Used is %d, not %d", c, i, n, used(l))
			}
		}
		if n := slot.Used(full(c), c); n != many(c) {
			t.Errorf("class %d: Used of a full page is %d", c, n)
		}
	}
}

// P18.1: one byte turned at each place, into each other byte.
func TestCheckTurned(t *testing.T) {
	for c := range sizes {
		for i, p := range kinds(c) {
			for at := range p {
				for by := 1; by < 256; by++ {
					p[at] ^= byte(by)
					l, may := things(p, c)
					if got := slot.Check(p, c); got != api.OK && got != api.ErrForm || (got == api.OK) != may {
						t.Fatalf("class %d, page %d, byte %d by %d: Check says %d", c, i, at, by, got)
					}
					if n := slot.Used(p, c); n != used(l) {
						t.Fatalf("class %d, page %d, byte %d by %d: Used is %d, not %d", c, i, at, by, n, used(l))
					}
					p[at] ^= byte(by)
				}
			}
		}
	}
}

// P18.1, and ErrForm first: each byte of a page of noughts, turned, makes a page that may not be.
func TestRefusedTurned(t *testing.T) {
	for c := range sizes {
		for at := range 256 {
			p := make([]byte, 256)
			p[at] = 1
			refused(t, "noughts, one byte turned", p, c)
			q := full(c)
			if at%wide(c) < 2 || at >= wide(c)*many(c) {
				q[at] ^= 0x80
				refused(t, "a full page, one byte turned", q, c)
			}
		}
	}
}

// P18.1: what each slot may not have: bytes without a serial, a serial without bytes, too many bytes, a trace.
func TestSlotsThatMayNotBe(t *testing.T) {
	for c := range sizes {
		for k := range many(c) {
			bad := func(what string, write func(s []byte)) {
				for _, p := range kinds(c) {
					s := p[k*wide(c) : (k+1)*wide(c)]
					clear(s)
					write(s)
					refused(t, what, p, c)
				}
			}
			bad("no serial", func(s []byte) { s[0] = 1 })
			bad("no bytes", func(s []byte) { s[2] = 1 })
			bad("no bytes, a great serial", func(s []byte) { s[7] = 0xFF })
			bad("a byte too many", func(s []byte) { s[0], s[2] = byte(sizes[c]+1), 1 })
			bad("as many as the slot", func(s []byte) { s[0], s[2] = byte(wide(c)), 1 })
			bad("256 bytes", func(s []byte) { s[1], s[2] = 1, 1 })
			bad("65535 bytes", func(s []byte) { s[0], s[1], s[2] = 255, 255, 1 })
			bad("a trace in a free slot", func(s []byte) { s[8] = 1 })
			bad("a trace at a free slot's end", func(s []byte) { s[len(s)-1] = 1 })
			bad("a trace just behind an object", func(s []byte) { s[0], s[2], s[8+sizes[c]-1] = byte(sizes[c]-1), 1, 1 })
			bad("a trace at the end", func(s []byte) { s[0], s[2], s[len(s)-1] = 1, 1, 1 })
		}
	}
}

// P18.1: a page has 256 bytes, whatever they are.
func TestRefusedLength(t *testing.T) {
	for c := range sizes {
		for _, p := range [][]byte{make([]byte, 256), full(c)} {
			long := append(slices.Clone(p), make([]byte, 600)...)
			for n := range long {
				if n == 256 || n > 300 && n%64 > 1 {
					continue
				}
				refused(t, "a page too short or too long", long[:n], c)
				refused(t, "a page too short or too long", long[:n:n], c)
			}
		}
		refused(t, "nil", nil, c)
		refused(t, "no bytes", []byte{}, c)
	}
}

// P18.1: classes that there are not.
func TestRefusedClass(t *testing.T) {
	l := append(far(), 8, 9, 15, 16, 128)
	for k := range 30 {
		l = append(l, 8+k, -1-k)
	}
	for _, c := range l {
		refused(t, "noughts", make([]byte, 256), c)
		refused(t, "a full page", full(0), c)
		refused(t, "nil", nil, c)
	}
	for _, c := range []int{math.MinInt, -1, 8, math.MaxInt} {
		refused(t, "no bytes", []byte{}, c)
	}
}

// P18.1: a page of one class is one of another one only if it may be.
func TestOtherClasses(t *testing.T) {
	for c := range sizes {
		for other := range sizes {
			for _, p := range kinds(c) {
				l, may := things(p, other)
				if e := slot.Check(p, other); (e == api.OK) != may {
					t.Errorf("a page of class %d as one of class %d: Check says %d", c, other, e)
				}
				if n := slot.Used(p, other); n != used(l) {
					t.Errorf("a page of class %d as one of class %d: Used is %d", c, other, n)
				}
			}
		}
	}
}

// Rule 4: what is asked about is left as it is, also where it has room behind its end.
func TestCheckChangesNothing(t *testing.T) {
	for c := range sizes {
		for _, p := range kinds(c) {
			room := append(slices.Clone(p), filled(64, 1)...)
			was := slices.Clone(room)
			slot.Check(room[:256], c)
			slot.Used(room[:256], c)
			for k := range 17 {
				slot.Get(room[:256], c, k)
			}
			if !bytes.Equal(room, was) {
				t.Errorf("class %d: a page was changed", c)
			}
		}
	}
}
