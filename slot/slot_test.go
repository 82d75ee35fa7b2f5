package slot_test

import (
	"bytes"
	"fmt"
	"math"
	"math/rand"
	"slices"
	"testing"

	"garderobe/api"
	"garderobe/slot"
)

func TestExample(t *testing.T) {
	p, k, e := slot.Take(make([]byte, 256), 0, 1, 3)
	want := make([]byte, 256)
	want[0], want[2] = 3, 1
	if k != 0 {
		t.Error("slot", k)
	}
	ok(t, "Take", 0, p, e, want)
}

// P18.2: Take till the page is full, and once more; the first slot that is free, wherever it is.
func TestTakeTillFull(t *testing.T) {
	if slot.MaxSerial != maxSerial {
		t.Error("MaxSerial")
	}
	for c := range sizes {
		p := make([]byte, 256)
		var l []thing
		for k := range many(c) {
			serial, n := uint64(1)<<uint(3*k)|1<<47, 1+(5*k+sizes[c]-1)%sizes[c]
			l = append(l, thing{serial, make([]byte, n)})
			q, at, e := slot.Take(p, c, serial, n)
			if at != k {
				t.Fatalf("class %d: slot %d, not %d", c, at, k)
			}
			ok(t, "Take", c, q, e, page(c, l...))
			p = q
		}
		says(t, "Take of a full page", take(p, c, 1, 1), api.ErrFull)
		says(t, "Take of a full page", take(p, c, maxSerial, sizes[c]), api.ErrFull)
		for k := many(c) - 1; k >= 0; k-- {
			q, e := slot.Free(p, c, k)
			was := l[k]
			l[k] = thing{}
			ok(t, "Free", c, q, e, page(c, l...))
			l[k] = thing{9, make([]byte, 1)}
			again, at, e := slot.Take(q, c, 9, 1)
			if at != k {
				t.Fatalf("class %d: slot %d, not %d", c, at, k)
			}
			ok(t, "Take", c, again, e, page(c, l...))
			l[k] = was
		}
	}
}

// P18.2: of several free slots the first one is taken.
func TestTakeFirst(t *testing.T) {
	for c := range sizes {
		for seed := range 50 {
			p := some(c, int64(seed))
			l, _ := things(p, c)
			first := slices.IndexFunc(l, func(x thing) bool { return len(x.b) == 0 })
			if first < 0 {
				says(t, "Take of a full page", take(p, c, 5, 5), api.ErrFull)
				continue
			}
			q, k, e := slot.Take(p, c, 77, 6)
			if k != first {
				t.Fatalf("class %d: slot %d, not %d", c, k, first)
			}
			l[first] = thing{77, make([]byte, 6)}
			ok(t, "Take", c, q, e, page(c, l...))
		}
	}
}

// P18.2: serials and numbers of bytes at their ends, and beyond; what may not be is told ahead of a full page.
func TestTakeArguments(t *testing.T) {
	for c := range sizes {
		for _, serial := range []uint64{1, 2, 255, 256, 1 << 32, 1 << 47, maxSerial - 1, maxSerial} {
			for n := 1; n <= sizes[c]; n++ {
				q, k, e := slot.Take(make([]byte, 256), c, serial, n)
				if k != 0 {
					t.Fatal("slot", k)
				}
				ok(t, "Take", c, q, e, page(c, thing{serial, make([]byte, n)}))
			}
		}
		for _, p := range kinds(c) {
			for _, serial := range []uint64{0, maxSerial + 1, maxSerial + 2, 1 << 49, 1<<56 + 1, 1 << 63, math.MaxUint64 - 1, math.MaxUint64} {
				for _, n := range []int{1, sizes[c], 0, sizes[c] + 1} {
					says(t, "Take of a serial that may not be", take(p, c, serial, n), api.ErrArg)
				}
			}
			for _, n := range append(far(), 0, sizes[c]+1, sizes[c]+2, wide(c), 121, 128, 255) {
				says(t, "Take of bytes that may not be", take(p, c, 1, n), api.ErrArg)
				says(t, "Take of bytes that may not be", take(p, c, maxSerial, n), api.ErrArg)
			}
		}
	}
}

// P18.2: Get and Free of all slots of a page: of those that are not free, of the others, and of those that there are not.
func TestGetAndFree(t *testing.T) {
	for c := range sizes {
		for _, p := range kinds(c) {
			l, _ := things(p, c)
			for k, x := range l {
				if len(x.b) == 0 {
					says(t, "Get of a free slot", get(p, c, k), api.ErrNone)
					says(t, "Free of a free slot", free(p, c, k), api.ErrNone)
					continue
				}
				if serial, b, e := slot.Get(p, c, k); serial != x.serial || !bytes.Equal(b, x.b) || e != api.OK {
					t.Fatalf("class %d, Get(%d): %d, % x, error %d", c, k, serial, b, e)
				}
				q, e := slot.Free(p, c, k)
				rest := slices.Clone(l)
				rest[k] = thing{}
				ok(t, "Free", c, q, e, page(c, rest...))
				says(t, "Get of what was freed", get(q, c, k), api.ErrNone)
				says(t, "Free of what was freed", free(q, c, k), api.ErrNone)
			}
			for _, k := range noSlots(c) {
				says(t, "Get of a slot that there is not", get(p, c, k), api.ErrNone)
				says(t, "Free of a slot that there is not", free(p, c, k), api.ErrNone)
			}
		}
	}
}

// P18.3: of free slots, and of those that there are not, ErrNone comes ahead of all that else is wrong.
func TestNoneFirst(t *testing.T) {
	for c := range sizes {
		for _, p := range kinds(c) {
			l, _ := things(p, c)
			slots := noSlots(c)
			for k, x := range l {
				if len(x.b) == 0 {
					slots = append(slots, k)
				}
			}
			for _, k := range slots {
				for _, x := range append(far(), 0, 1, sizes[c], sizes[c]+1) {
					says(t, "Resize", resize(p, c, k, x), api.ErrNone)
					says(t, "Write of nothing", write(p, c, k, x, nil), api.ErrNone)
					says(t, "Write", write(p, c, k, x, filled(200, 1)), api.ErrNone)
				}
			}
		}
	}
}

// P18.3: Resize of each length to each other one: the first bytes as they were, noughts behind, and no trace.
func TestResize(t *testing.T) {
	for c := range sizes {
		for n := 1; n <= sizes[c]; n++ {
			k := n % many(c)
			l := make([]thing, many(c))
			for i := range l {
				l[i] = thing{uint64(maxSerial - i), filled(sizes[c], i)}
			}
			l[k].b = filled(n, n)
			p := page(c, l...)
			for m := 1; m <= sizes[c]; m++ {
				b := make([]byte, m)
				copy(b, l[k].b)
				want := slices.Clone(l)
				want[k].b = b
				q, e := slot.Resize(p, c, k, m)
				ok(t, fmt.Sprintf("Resize of %d to %d", n, m), c, q, e, page(c, want...))
			}
			for _, m := range append(far(), 0, sizes[c]+1, sizes[c]+2, wide(c), 121, 128, 255) {
				says(t, "Resize", resize(p, c, k, m), api.ErrArg)
			}
		}
	}
}

// P18.3: what was made shorter and longer again has noughts where it had other bytes.
func TestResizeThereAndBack(t *testing.T) {
	for c := range sizes {
		p := full(c)
		for k := range many(c) {
			q, e := slot.Resize(p, c, k, 1)
			r, f := slot.Resize(q, c, k, sizes[c])
			l, _ := things(full(c), c)
			l[k].b = append([]byte{l[k].b[0]}, make([]byte, sizes[c]-1)...)
			if e != api.OK {
				t.Fatal("Resize", e)
			}
			ok(t, "Resize", c, r, f, page(c, l...))
		}
	}
}

// P18.3: Write of each number of bytes at each place of objects of each length, and beyond their ends.
func TestWrite(t *testing.T) {
	for c := range sizes {
		for n := 1; n <= sizes[c]; n = n*5/4 + 1 {
			k := n % many(c)
			l := make([]thing, many(c))
			for i := range l {
				l[i] = thing{uint64(1 + i), filled(1+(i+n)%sizes[c], i)}
			}
			l[k].b = filled(n, 100)
			p := page(c, l...)
			for at := 0; at <= n; at++ {
				for m := 0; at+m <= n; m++ {
					b := filled(m, 50+m)
					want := slices.Clone(l)
					want[k].b = slices.Concat(l[k].b[:at], b, l[k].b[at+m:])
					q, e := slot.Write(p, c, k, at, b)
					ok(t, fmt.Sprintf("Write of %d at %d of %d", m, at, n), c, q, e, page(c, want...))
				}
				for _, m := range []int{n - at + 1, n - at + 2, sizes[c] + 1, 256, 65536} {
					says(t, "Write beyond the end", write(p, c, k, at, make([]byte, max(m, n-at+1))), api.ErrRange)
				}
			}
			for _, at := range append(far(), n+1, n+2, 121, 128, 248, 255, math.MaxInt-n, math.MaxInt-n+1, math.MinInt+n, -n, -n-1) {
				for _, m := range []int{0, 1, 2, n, n + 1, 8, 255, 256} {
					says(t, fmt.Sprintf("Write of %d at %d of %d", m, at, n), write(p, c, k, at, make([]byte, m)), api.ErrRange)
				}
			}
		}
	}
}

// P18.3: of nothing, nil or not, nothing is changed; at the end it may stand, behind the end not.
func TestWriteNothing(t *testing.T) {
	for c := range sizes {
		p := page(c, thing{1, filled(3, 1)}, thing{2, filled(5, 2)})
		for _, b := range [][]byte{nil, {}} {
			for at := range 6 {
				q, e := slot.Write(p, c, 1, at, b)
				ok(t, "Write of nothing", c, q, e, p)
			}
			says(t, "Write of nothing behind the end", write(p, c, 1, 6, b), api.ErrRange)
			says(t, "Write of nothing ahead of the beginning", write(p, c, 1, -1, b), api.ErrRange)
		}
	}
}

// P18.3: noughts may be written, and bytes that stand in the page itself.
func TestWriteFromThePage(t *testing.T) {
	for c := range sizes {
		p := full(c)
		l, _ := things(full(c), c)
		q, e := slot.Write(p, c, 1, 0, make([]byte, sizes[c]))
		ok(t, "Write of noughts", c, q, e, page(c, append([]thing{l[0], {l[1].serial, make([]byte, sizes[c])}}, l[2:]...)...))
		b := slices.Concat(l[1].b[:1], l[1].b[:sizes[c]-1])
		q, e = slot.Write(p, c, 1, 1, p[wide(c)+8:wide(c)+8+sizes[c]-1])
		ok(t, "Write of the page's own bytes", c, q, e, page(c, append([]thing{l[0], {l[1].serial, b}}, l[2:]...)...))
		if !bytes.Equal(p, full(c)) {
			t.Errorf("class %d: Write changed the page", c)
		}
	}
}

// P18.4: what is taken, written, made longer and shorter, and freed in any order leaves the page as it was.
func TestWithoutATrace(t *testing.T) {
	for c := range sizes {
		for seed := range 30 {
			r := rand.New(rand.NewSource(int64(seed)))
			p := some(c, int64(seed))
			if seed == 0 {
				p = make([]byte, 256)
			}
			was := slices.Clone(p)
			var mine []int
			for range 200 {
				q, k, e := slot.Take(p, c, 1+uint64(r.Int63n(maxSerial)), 1+r.Intn(sizes[c]))
				if e == api.OK && r.Intn(3) > 0 {
					p, mine = q, append(mine, k)
				}
				if len(mine) == 0 {
					continue
				}
				i := r.Intn(len(mine))
				if q, e := slot.Write(p, c, mine[i], r.Intn(4), filled(1+r.Intn(sizes[c]), seed)); e == api.OK {
					p = q
				}
				if q, e := slot.Resize(p, c, mine[i], 1+r.Intn(sizes[c])); e == api.OK && r.Intn(2) > 0 {
					p = q
				}
				if r.Intn(4) == 0 {
					p, mine = freed(t, p, c, mine, i)
				}
				if slot.Check(p, c) != api.OK {
					t.Fatalf("class %d: a page that was answered may not be", c)
				}
			}
			for len(mine) > 0 {
				p, mine = freed(t, p, c, mine, r.Intn(len(mine)))
			}
			if !bytes.Equal(p, was) {
				t.Errorf("class %d: % x, not % x", c, p, was)
			}
		}
	}
}

// freed is a page without the i-th one of some slots, and the slots without it.
func freed(t *testing.T, p []byte, c int, l []int, i int) ([]byte, []int) {
	t.Helper()
	q, e := slot.Free(p, c, l[i])
	if e != api.OK {
		t.Fatalf("class %d: Free says %d", c, e)
	}
	return q, slices.Delete(l, i, i+1)
}

// P18.1 to P18.3, P18.5: many calls in any order, with arguments of all kinds, held against what the words say.
func TestAnyOrder(t *testing.T) {
	for c := range sizes {
		r := rand.New(rand.NewSource(int64(c)))
		m := model{c, make([]thing, many(c))}
		p := make([]byte, 256)
		for range 3000 {
			k, n, at := r.Intn(many(c)+2)-1, r.Intn(sizes[c]+3)-1, r.Intn(sizes[c]+2)-1
			serial, b := uint64(r.Int63n(maxSerial)), filled(r.Intn(sizes[c]/2+2), r.Int())
			var a answer
			var want api.Errno
			switch r.Intn(7) { // more are taken than freed, so that pages are full at times
			case 0, 1:
				a = take(p, c, serial, n)
				k, want = m.take(serial, n)
				if want == api.OK && a.k != k {
					t.Fatalf("class %d: Take in slot %d, not %d", c, a.k, k)
				}
			case 2:
				a, want = free(p, c, k), m.free(k)
			case 3, 4:
				a, want = resize(p, c, k, n), m.resize(k, n)
			case 5, 6:
				a, want = write(p, c, k, at, b), m.write(k, at, b)
			}
			if want != api.OK {
				says(t, "a call in any order", a, want)
				continue
			}
			ok(t, "a call in any order", c, a.p, a.e, page(c, m.l...))
			if n := slot.Used(a.p, c); n != used(m.l) {
				t.Fatalf("class %d: Used is %d, not %d", c, n, used(m.l))
			}
			p = a.p
		}
	}
}

// P1: no call panics, and beside an error there is nothing, at bytes and numbers of any kind.
func TestAnything(t *testing.T) {
	r := rand.New(rand.NewSource(5))
	numbers := append(far(), 0, 1, 2, 3, 7, 8, 9, 15, 16, 120, 121)
	one := func() int { return numbers[r.Intn(len(numbers))] }
	for range 20000 {
		c := r.Intn(10) - 1
		p := make([]byte, 250+r.Intn(10))
		switch r.Intn(4) {
		case 0:
			r.Read(p)
		case 1:
			c, p = c&7, some(c&7, r.Int63())
		case 2:
			c, p = c&7, some(c&7, r.Int63())
			p[r.Intn(256)] = byte(r.Int())
		}
		was, b := slices.Clone(p), make([]byte, r.Intn(300))
		k := one()
		l := []answer{take(p, c, r.Uint64()>>uint(r.Intn(64)), one()), take(p, c, uint64(one()), one()), free(p, c, k), resize(p, c, k, one()), write(p, c, k, one(), b), get(p, c, k)}
		for i, a := range l {
			if a.e != api.OK && !a.nothing() || a.e == api.OK && i < 5 && slot.Check(a.p, c) != api.OK {
				t.Fatalf("call %d: %+v", i, a)
			}
			if _, may := things(p, c); !may && a.e != api.ErrForm {
				t.Fatalf("call %d of a page that may not be: %+v", i, a)
			}
		}
		slot.Check(p, one())
		slot.Used(p, one())
		if !bytes.Equal(p, was) {
			t.Fatal("a page was changed")
		}
	}
}
