package check_test

import (
	"encoding/binary"
	"fmt"
	"math/rand/v2"
	"slices"
	"testing"

	"garderobe/alloc"
	"garderobe/api"
	"garderobe/check"
)

// By the words: kinds of pages, what a page has, the classes' bytes, the greatest serial.
const (
	free, slots, head, tail = 0, 1, 2, 3
	wide                    = 256
	maxSerial               = 1<<48 - 1
)

func sizes() []int { return []int{8, 16, 24, 32, 48, 64, 96, 120} }

// page is what a page is, and its bytes.
type page struct {
	kind, class, run, size int
	serial                 uint64
	data                   [wide]byte
}

// draft is a heap as it is to stand, whether it may or not.
type draft struct {
	next  uint64
	roots [16]uint64
	pages []page
}

// blank is a heap of n free pages, whose next serial is that.
func blank(n int, next uint64) *draft { return &draft{next: next, pages: make([]page, n)} }

func (d *draft) copy() *draft {
	o := *d
	o.pages = slices.Clone(d.pages)
	return &o
}

// small puts an object of n bytes into a slot of a page.
func (d *draft) small(at, class, k int, serial uint64, n int) *draft {
	p := &d.pages[at]
	p.kind, p.class = slots, class
	b := p.data[k*(sizes()[class]+8):]
	binary.LittleEndian.PutUint64(b, serial<<16|uint64(n))
	for i := range n {
		b[8+i] = byte(i*7 + 1)
	}
	return d
}

// great puts an object of n bytes into pages.
func (d *draft) great(at int, serial uint64, n int) *draft {
	run := (n + wide - 1) / wide
	for k := range run {
		d.pages[at+k].kind = tail
		for i := range min(n-k*wide, wide) {
			d.pages[at+k].data[i] = byte(i*5 + 3)
		}
	}
	p := &d.pages[at]
	p.kind, p.run, p.size, p.serial = head, run, n, serial
	return d
}

// root makes an object a root: the one of a serial at a page and a slot.
func (d *draft) root(k, at, slot int, serial uint64) *draft {
	d.roots[k] = name(at, slot, serial)
	return d
}

// byte turns a bit of a page's byte.
func (d *draft) byte(at, k int) *draft {
	d.pages[at].data[k] ^= 16
	return d
}

func name(at, slot int, serial uint64) uint64 { return uint64(at)<<56 | uint64(slot)<<48 | serial }

// blocks is a heap as it stands: the head, the maps, the pages.
func (d *draft) blocks() [][]byte {
	first := binary.LittleEndian.AppendUint64(nil, d.next)
	for _, h := range d.roots {
		first = binary.LittleEndian.AppendUint64(first, h)
	}
	out := [][]byte{append(first, make([]byte, wide-len(first))...)}
	for l := range slices.Chunk(d.pages, 16) {
		var b []byte
		for _, p := range l {
			b = append(b, byte(p.kind), byte(p.class))
			b = binary.LittleEndian.AppendUint16(b, uint16(p.run))
			b = binary.LittleEndian.AppendUint32(b, uint32(p.size))
			b = binary.LittleEndian.AppendUint64(b, p.serial)
		}
		out = append(out, append(b, make([]byte, wide-len(b))...))
	}
	for _, p := range d.pages {
		out = append(out, slices.Clone(p.data[:]))
	}
	return out
}

// object is one that a heap has.
type object struct {
	at, slot int
	serial   uint64
}

// mayHead tells whether a head may be, and the next serial that it has.
func mayHead(b []byte) (uint64, bool) {
	if slices.Equal(b, make([]byte, wide)) {
		return 1, true
	}
	next := binary.LittleEndian.Uint64(b)
	for k := range 16 {
		h := binary.LittleEndian.Uint64(b[8+8*k:])
		if h != 0 && (h>>56 > 63 || h>>48&255 > 15 || h&maxSerial == 0) {
			return 0, false
		}
	}
	return next, 1 <= next && next <= maxSerial+1 && slices.Equal(b[136:], make([]byte, wide-136))
}

// mayMaps tells whether maps may be, and what each of n pages is.
func mayMaps(n int, next uint64, maps [][]byte) ([]page, bool) {
	all := slices.Concat(maps...)
	l, due := make([]page, n), 0
	for k := range len(all) / 16 {
		b := all[16*k : 16*k+16]
		p := page{kind: int(b[0]), class: int(b[1]), run: int(binary.LittleEndian.Uint16(b[2:])), size: int(binary.LittleEndian.Uint32(b[4:])), serial: binary.LittleEndian.Uint64(b[8:])}
		like := page{kind: p.kind}
		switch p.kind {
		case slots:
			like.class = min(p.class, 7)
		case head:
			like.size, like.serial = max(121, min(p.size, 4096)), max(1, min(p.serial, maxSerial))
			like.run = (like.size + wide - 1) / wide
		}
		if p != like || p.serial >= next || p.kind > tail || k >= n && p.kind != free || (p.kind == tail) != (due > 0) {
			return nil, false
		}
		due = max(0, due-1, p.run-1)
		if k < n {
			l[k] = p
		}
	}
	return l, due == 0
}

// inSlots is the objects of a page of slots, and whether that may be.
func inSlots(at, class int, b []byte) ([]object, bool) {
	var l []object
	most := sizes()[class]
	many := wide / (most + 8)
	for k := range many {
		s := b[k*(most+8) : (k+1)*(most+8)]
		v := binary.LittleEndian.Uint64(s)
		n := int(v & 65535)
		if v != 0 && (n < 1 || n > most || v>>16 == 0) || !slices.Equal(s[8+n:], make([]byte, most-n)) {
			return nil, false
		}
		if v != 0 {
			l = append(l, object{at, k, v >> 16})
		}
	}
	if rest := b[many*(most+8):]; !slices.Equal(rest, make([]byte, len(rest))) {
		return nil, false
	}
	return l, true
}

// model is the faults of blocks of n pages, by the words.
func model(n int, blocks [][]byte) []check.Fault {
	next, ok := mayHead(blocks[0])
	maps := (n + 15) / 16
	l, fine := mayMaps(n, next, blocks[1:1+maps])
	if !ok || !fine {
		return []check.Fault{{4, -1}}
	}
	var out []check.Fault
	var objects []object
	for at, p := range l {
		b := blocks[1+maps+at]
		switch p.kind {
		case free:
			if !slices.Equal(b, make([]byte, wide)) {
				out = append(out, check.Fault{5, at})
			}
		case slots:
			more, ok := inSlots(at, p.class, b)
			if !ok {
				out = append(out, check.Fault{4, at})
			}
			objects = append(objects, more...)
		case head:
			objects = append(objects, object{at, 0, p.serial})
			last := at + p.run - 1
			end := p.size - wide*(p.run-1)
			if !slices.Equal(blocks[1+maps+last][end:], make([]byte, wide-end)) {
				out = append(out, check.Fault{5, last})
			}
		}
	}
	return append(out, modelRest(next, objects, blocks[0])...)
}

// modelRest is the faults of objects and roots.
func modelRest(next uint64, objects []object, first []byte) []check.Fault {
	var out []check.Fault
	for k, o := range objects {
		if o.serial >= next {
			out = append(out, check.Fault{2, o.at})
		} else if slices.ContainsFunc(objects[:k], func(x object) bool { return x.serial == o.serial }) {
			out = append(out, check.Fault{3, o.at})
		}
	}
	for k := range 16 {
		h := binary.LittleEndian.Uint64(first[8+8*k:])
		if h != 0 && !slices.ContainsFunc(objects, func(x object) bool { return name(x.at, x.slot, x.serial) == h }) {
			out = append(out, check.Fault{1, k})
		}
	}
	return out
}

// holder holds what the package says of heaps of n pages against what is to be said.
type holder struct {
	t *testing.T
	g api.Geo
	a *alloc.Alloc // of a new store
}

func held(t *testing.T, n int) *holder {
	t.Helper()
	g := api.Geo{Pages: n, Tx: 4}
	return &holder{t, g, fresh(t, g)}
}

// blocks fails unless these blocks have just these faults, by themselves, in a batch, and by the words.
func (x *holder) blocks(what string, l [][]byte, want ...check.Fault) {
	x.t.Helper()
	was := slices.Clone(l)
	for k := range was {
		was[k] = slices.Clone(l[k])
	}
	if by := model(x.g.Pages, l); !slices.Equal(by, want) {
		x.t.Errorf("%s: by the words %v, not %v", what, by, want)
	}
	if got, e := check.Blocks(x.g, l...); e != api.OK || !slices.Equal(got, want) {
		x.t.Errorf("%s: Blocks: %v, error %d; not %v", what, got, e, want)
	}
	a := x.a.Copy()
	for k, b := range l {
		if e := a.Batch().Put(k, b); e != api.OK {
			x.t.Fatal("Put", k, e)
		}
	}
	if got, e := check.All(a, x.g); e != api.OK || !slices.Equal(got, want) {
		x.t.Errorf("%s: All: %v, error %d; not %v", what, got, e, want)
	}
	for k, b := range l {
		if !slices.Equal(b, was[k]) {
			x.t.Errorf("%s: block %d was changed", what, k)
		}
	}
}

// draft does so with a heap.
func (x *holder) draft(what string, d *draft, want ...check.Fault) {
	x.t.Helper()
	x.blocks(what, d.blocks(), want...)
}

// chance is a heap of n pages with objects, as it may be.
func chance(r *rand.Rand, n int) *draft {
	d := blank(n, 1+r.Uint64N(3))
	give := func() uint64 {
		d.next += 1 + r.Uint64N(2)
		return d.next - 1
	}
	for at := 0; at < n; at++ {
		switch r.IntN(5) {
		case 0, 1:
			c := r.IntN(8)
			for k := range wide / (sizes()[c] + 8) {
				d.pages[at].kind, d.pages[at].class = slots, c
				if r.IntN(2) == 0 {
					d.small(at, c, k, give(), 1+r.IntN(sizes()[c]))
				}
			}
		case 2, 3:
			most := min(n-at, 16, 1+r.IntN(16))
			size := 121 + r.IntN(most*wide-120)
			d.great(at, give(), size)
			at += d.pages[at].run - 1
		}
	}
	return d
}

// objects is all that a heap has.
func (d *draft) objects() []object {
	var l []object
	for at, p := range d.pages {
		switch p.kind {
		case slots:
			more, _ := inSlots(at, p.class, p.data[:])
			l = append(l, more...)
		case head:
			l = append(l, object{at, 0, p.serial})
		}
	}
	return l
}

// P25.1: heaps of all kinds, with faults of all kinds, many of them at once.
func TestModel(t *testing.T) {
	for seed := range uint64(40) {
		t.Run(fmt.Sprint(seed), func(t *testing.T) {
			t.Parallel()
			r := rand.New(rand.NewPCG(seed, 25))
			x := held(t, []int{1, 2, 5, 16, 17, 40, 64}[r.IntN(7)])
			for range 25 {
				d := chance(r, x.g.Pages)
				l := d.objects()
				for k := range d.roots {
					if len(l) > 0 && r.IntN(2) == 0 {
						o := l[r.IntN(len(l))]
						d.root(k, o.at, o.slot, o.serial)
					}
				}
				x.draft("as it may be", d)
				for range r.IntN(6) {
					d.harm(r, l)
				}
				b := d.blocks()
				x.blocks("harmed", b, model(x.g.Pages, b)...)
			}
		})
	}
}

// harm does something that may not be.
func (d *draft) harm(r *rand.Rand, l []object) {
	at := r.IntN(len(d.pages))
	switch r.IntN(9) {
	case 0, 1:
		d.byte(at, r.IntN(wide))
	case 8:
		for k := range d.pages[at].data {
			d.pages[at].data[k] = byte(r.Uint32())
		}
	case 2:
		d.roots[r.IntN(16)] = name(r.IntN(64), r.IntN(16), 1+r.Uint64N(d.next+2))
	case 3:
		d.next = 1 + r.Uint64N(d.next)
	case 4:
		if r.IntN(4) == 0 {
			d.pages[at].kind = r.IntN(5)
		}
	case 5:
		if d.pages[at].kind == head {
			d.pages[at].serial = 1 + r.Uint64N(d.next)
		}
	default:
		if len(l) == 0 {
			return
		}
		o := l[r.IntN(len(l))]
		if p := &d.pages[o.at]; p.kind == slots { // one object has the serial of another one
			binary.LittleEndian.PutUint32(p.data[o.slot*(sizes()[p.class]+8)+2:], uint32(l[r.IntN(len(l))].serial))
		}
	}
}
