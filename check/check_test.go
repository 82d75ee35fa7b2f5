package check_test

import (
	"fmt"
	"math"
	"slices"
	"testing"

	"garderobe/api"
	"garderobe/check"
)

func fault(kind, at int) check.Fault { return check.Fault{Kind: kind, At: at} }

// The kinds' numbers, by name.
const (
	root, late, twice, form, trace = check.Root, check.Late, check.Twice, check.Form, check.Trace
)

func TestKinds(t *testing.T) {
	if l := []int{root, late, twice, form, trace}; !slices.Equal(l, []int{1, 2, 3, 4, 5}) {
		t.Error(l)
	}
}

// The chapter's example: noughts in all blocks have no faults; a byte in a page, any one of it, is a Trace there.
func TestExample(t *testing.T) {
	for n := 1; n <= 64; n++ {
		maps := (n + 15) / 16
		g := api.Geo{Pages: n, Tx: 4 + n%21}
		l := slices.Repeat([][]byte{make([]byte, wide)}, 1+maps+n)
		if out, e := check.Blocks(g, l...); e != api.OK || len(out) != 0 {
			t.Errorf("%d pages: %v, error %d", n, out, e)
		}
		for at := range n {
			l[1+maps+at] = make([]byte, wide)
			for _, k := range []int{0, 1, 7, 8, 128, 254, 255} {
				l[1+maps+at][k] = 1
				if out, e := check.Blocks(g, l...); e != api.OK || !slices.Equal(out, []check.Fault{fault(trace, at)}) {
					t.Errorf("%d pages, byte %d of page %d: %v, error %d", n, k, at, out, e)
				}
				l[1+maps+at][k] = 0
			}
		}
	}
	x := held(t, 20)
	x.draft("nothing", blank(20, 1))
	x.draft("a byte", blank(20, 1).byte(18, 200), fault(trace, 18))
}

// P25.1: heaps with objects of all sizes, as they may be.
func TestWhole(t *testing.T) {
	x := held(t, 17)
	for _, n := range []int{121, 255, 256, 257, 511, 512, 513, 3839, 3840, 3841, 4095, 4096} {
		x.draft(fmt.Sprint("a great object of ", n), blank(17, 9).great(1, 8, n).root(5, 1, 0, 8))
	}
	for c, most := range sizes() {
		d := blank(17, 99)
		last := wide/(most+8) - 1
		d.small(16, c, 0, 1, 1).small(16, c, last, 98, most)
		x.draft(fmt.Sprint("small objects of class ", c), d.root(0, 16, last, 98).root(15, 16, 0, 1))
		d = blank(17, 1)
		d.pages[3].kind, d.pages[3].class = slots, c
		x.draft(fmt.Sprint("a page without objects, of class ", c), d)
	}
}

// P25.1: Trace: each byte of a free page, and each one behind the end of a great object in its last page, none ahead of it.
func TestTrace(t *testing.T) {
	x := held(t, 18)
	for _, n := range []int{121, 200, 255, 256, 257, 300, 511, 512, 513, 2000, 3841, 4095, 4096} {
		last := 1 + (n-1)/wide
		end := n - wide*(last-1)
		d := blank(18, 7).great(1, 6, n)
		for _, k := range []int{0, end - 1} {
			x.draft(fmt.Sprintf("%d bytes, the last page's byte %d", n, k), d.copy().byte(last, k))
		}
		x.draft(fmt.Sprintf("%d bytes, the first one", n), d.copy().byte(1, 0))
		x.draft(fmt.Sprintf("%d bytes, the page ahead", n), d.copy().byte(0, 255), fault(trace, 0))
		x.draft(fmt.Sprintf("%d bytes, the page behind", n), d.copy().byte(last+1, 0), fault(trace, last+1))
		if last > 1 {
			x.draft(fmt.Sprintf("%d bytes, the first page's last one", n), d.copy().byte(1, 255))
		}
		for _, k := range []int{end, (end + wide) / 2, wide - 1} {
			if end < wide {
				x.draft(fmt.Sprintf("%d bytes, the last page's byte %d", n, k), d.copy().byte(last, k), fault(trace, last))
			}
		}
	}
	d := blank(18, 7).great(0, 1, 300).great(2, 2, 300).great(4, 3, 121)
	x.draft("great ones side by side", d.copy().byte(1, 44).byte(3, 255).byte(4, 121), fault(trace, 1), fault(trace, 3), fault(trace, 4))
	x.draft("many bytes of one page", d.copy().byte(1, 44).byte(1, 45).byte(17, 1).byte(17, 2), fault(trace, 1), fault(trace, 17))
}

// P25.1: Form: pages of slots that may not be, in each way; what objects these have plays no part.
func TestForm(t *testing.T) {
	x := held(t, 3)
	for c, most := range sizes() {
		at, last := most+8, wide/(most+8)-1
		d := blank(3, 50)
		d.small(1, c, 0, 5, most-1).small(1, c, last, 6, 1)
		if last > 0 {
			d.small(1, c, last, 6, most)
		}
		breaks := map[string]func(b []byte){
			"more bytes than the class":   func(b []byte) { b[0] = byte(most + 1) },
			"many more bytes":             func(b []byte) { b[1] = 1 },
			"no bytes":                    func(b []byte) { b[0], b[1] = 0, 0 },
			"no serial":                   func(b []byte) { clear(b[2:8]) },
			"a byte behind an object":     func(b []byte) { b[at-1] = 1 },
			"a byte in a free slot":       func(b []byte) { clear(b[:at]); b[8] = 1 },
			"the last byte in a free one": func(b []byte) { clear(b[:at]); b[at-1] = 1 },
			"a size in a free one":        func(b []byte) { clear(b[:at]); b[0] = 1 },
			"a serial in a free one":      func(b []byte) { clear(b[:at]); b[7] = 1 },
		}
		if rest := wide % at; rest > 0 {
			breaks["the first byte behind the slots"] = func(b []byte) { b[wide-rest] = 1 }
			breaks["the last byte behind the slots"] = func(b []byte) { b[wide-1] = 1 }
		}
		for what, harm := range breaks {
			what := fmt.Sprintf("class %d: %s", c, what)
			o := d.copy()
			harm(o.pages[1].data[:])
			x.draft(what, o, fault(form, 1))
			o.next, o.pages[2].data[9] = 2, 1
			o.small(0, 0, 0, 1, 1).root(3, 1, last, 6).root(4, 0, 0, 1)
			x.draft(what+", among others", o, fault(form, 1), fault(trace, 2), fault(root, 3))
			o = d.copy().small(0, 0, 0, 6, 1).small(2, 0, 0, 6, 1)
			harm(o.pages[1].data[:])
			x.draft(what+", serials", o, fault(form, 1), fault(twice, 2))
		}
	}
}

// P25.1: a serial below the head's next one is none that is Late; one at it, or beyond, is: of a small object.
func TestLate(t *testing.T) {
	x := held(t, 4)
	for _, next := range []uint64{2, 3, 256, 1 << 32, maxSerial} {
		x.draft("below", blank(4, next).small(2, 3, 1, next-1, 5))
		x.draft("at", blank(4, next).small(2, 3, 1, next, 5), fault(late, 2))
		x.draft("far beyond", blank(4, next).small(2, 3, 1, maxSerial, 5), fault(late, 2))
	}
	x.draft("none was given", blank(4, 1).small(0, 0, 15, 1, 8), fault(late, 0))
	x.draft("a head of noughts", blank(4, 0).small(0, 0, 15, 1, 8), fault(late, 0))
	x.draft("all were given", blank(4, maxSerial+1).small(0, 0, 15, maxSerial, 8).great(1, maxSerial-1, 200))
	d := blank(4, 10).small(1, 0, 2, 11, 1).small(1, 0, 5, 9, 1).small(1, 0, 6, 10, 1).small(3, 1, 0, 77, 1)
	x.draft("several in a page", d, fault(late, 1), fault(late, 1), fault(late, 3))
	x.draft("it may be a root", d.root(2, 1, 2, 11), fault(late, 1), fault(late, 1), fault(late, 3))
}

// P25.1: the serial of a great object that is not below the next one is no Meta's.
func TestGreatLate(t *testing.T) {
	x := held(t, 4)
	for _, next := range []uint64{2, 3, 1 << 32, maxSerial} {
		x.draft("below", blank(4, next).great(1, next-1, 500))
		x.draft("at", blank(4, next).great(1, next, 500), fault(form, -1))
		x.draft("far beyond", blank(4, next).great(1, maxSerial, 500), fault(form, -1))
	}
	x.draft("a head of noughts", blank(4, 0).great(1, 1, 500), fault(form, -1))
}

// P25.1: Twice: of each but the first one, by page and slot, of small objects and of great ones.
func TestTwice(t *testing.T) {
	x := held(t, 8)
	x.draft("in one page", blank(8, 9).small(2, 1, 3, 8, 1).small(2, 1, 7, 8, 2), fault(twice, 2))
	x.draft("in two", blank(8, 9).small(2, 1, 3, 8, 1).small(5, 1, 0, 8, 2), fault(twice, 5))
	x.draft("three times", blank(8, 9).small(6, 1, 3, 8, 1).small(2, 1, 7, 8, 2).small(2, 1, 8, 8, 2), fault(twice, 2), fault(twice, 6))
	x.draft("of great ones", blank(8, 9).great(1, 8, 300).great(5, 8, 600), fault(twice, 5))
	x.draft("of a small one, and a great one", blank(8, 9).small(0, 0, 0, 8, 1).great(1, 8, 300), fault(twice, 1))
	x.draft("of a great one, and a small one", blank(8, 9).great(1, 8, 300).small(4, 0, 9, 8, 1), fault(twice, 4))
	d := blank(8, 9).small(0, 0, 0, 1, 1).small(0, 0, 1, 2, 1).small(0, 0, 2, 1, 1).small(1, 0, 0, 2, 1).great(2, 2, 200).great(3, 3, 200)
	x.draft("of two serials", d, fault(twice, 0), fault(twice, 1), fault(twice, 2))
	x.draft("of which one is a root", d.root(7, 1, 0, 2).root(8, 2, 0, 2), fault(twice, 0), fault(twice, 1), fault(twice, 2))
	x.draft("alike but for the highest bit", blank(8, maxSerial).small(0, 0, 0, 1, 1).small(0, 0, 1, 1<<47|1, 1))
}

// P25.1: what is too late is not told to be there twice, too.
func TestLateAndTwice(t *testing.T) {
	x := held(t, 3)
	x.draft("both", blank(3, 9).small(0, 1, 3, 9, 1).small(0, 1, 5, 9, 2), fault(late, 0), fault(late, 0))
	d := blank(3, 9).small(0, 1, 3, 9, 1).small(0, 1, 5, 8, 2).small(1, 0, 0, 9, 1).small(1, 0, 1, 8, 1).small(2, 7, 1, 9, 1)
	x.draft("each", d, fault(late, 0), fault(late, 1), fault(twice, 1), fault(late, 2))
}

// P25.1: roots that are 0, an object's handle, and no object's, for each reason; each root by its number.
func TestRoots(t *testing.T) {
	x := held(t, 20)
	d := func() *draft { return blank(20, 40).small(3, 2, 0, 5, 7).small(3, 2, 7, 6, 24).great(8, 7, 900) }
	for k := range 16 {
		x.draft("none", d())
		x.draft("small", d().root(k, 3, 0, 5))
		x.draft("small, the last slot", d().root(k, 3, 7, 6))
		x.draft("great", d().root(k, 8, 0, 7))
		for what, o := range map[string]object{
			"another serial":               {3, 0, 6},
			"a serial a bit away":          {3, 0, 5 | 1<<40},
			"another slot":                 {3, 1, 5},
			"a slot that there isn't":      {3, 8, 5},
			"the other one's slot":         {3, 7, 5},
			"another page":                 {4, 0, 5},
			"a page of the geometry's end": {19, 0, 5},
			"a page behind the end":        {20, 0, 5},
			"the greatest page":            {63, 15, 5},
			"a great one's other serial":   {8, 0, 5},
			"a great one's slot":           {8, 1, 7},
			"a great one's tail":           {9, 0, 7},
			"the greatest handle":          {63, 15, maxSerial},
		} {
			x.draft(what, d().root(k, o.at, o.slot, o.serial), fault(root, k))
		}
	}
	all := d()
	var want []check.Fault
	for k := range 16 {
		all.root(k, 3, 0, uint64(5+k%2))
		if k%2 == 1 {
			want = append(want, fault(root, k))
		}
	}
	x.draft("one thing many times", all, want...)
	x.draft("all of them", d().root(0, 3, 0, 5).root(1, 3, 7, 6).root(2, 8, 0, 7))
}

// P25.1: a head, or maps, that are no Meta's: that fault alone, whatever else there is.
func TestNoMeta(t *testing.T) {
	x := held(t, 20)
	d := blank(20, 40).small(3, 2, 0, 77, 7).small(3, 2, 1, 77, 7).great(14, 7, 900).byte(0, 0).byte(17, 255).root(3, 9, 9, 9)
	x.draft("as it stands", d, fault(trace, 0), fault(trace, 17), fault(late, 3), fault(late, 3), fault(root, 3))
	heads := map[string]func(d *draft){
		"no next serial, but a root": func(d *draft) { d.next = 0 },
		"a next serial too great":    func(d *draft) { d.next = maxSerial + 2 },
		"one of 64 bits":             func(d *draft) { d.next = math.MaxUint64 },
		"a root's page":              func(d *draft) { d.roots[3] = 64<<56 | 9 },
		"a root's slot":              func(d *draft) { d.roots[15] = 16<<48 | 9 },
		"a root's serial":            func(d *draft) { d.roots[0] = 1 << 56 },
		"a great one's serial":       func(d *draft) { d.next = 7 },
	}
	for what, harm := range heads {
		o := d.copy()
		harm(o)
		x.draft(what, o, fault(form, -1))
	}
	for what, harm := range map[string]func(l []page){
		"a kind":                  func(l []page) { l[1].kind = 4 },
		"a class":                 func(l []page) { l[3].class = 8 },
		"a free page with class":  func(l []page) { l[1].class = 1 },
		"a page of slots with...": func(l []page) { l[3].size = 1 },
		"a run":                   func(l []page) { l[14].run = 3 },
		"a size":                  func(l []page) { l[14].size = 1100 },
		"a size that is small":    func(l []page) { l[14].size, l[14].run = 120, 1 },
		"a great one's serial":    func(l []page) { l[14].serial = 40 },
		"no serial":               func(l []page) { l[14].serial = 0 },
		"a tail too few":          func(l []page) { l[17].kind = free },
		"a tail too many":         func(l []page) { l[18].kind = tail },
		"a tail alone":            func(l []page) { l[0].kind = tail },
		"a head at the end":       func(l []page) { l[19] = page{kind: head, run: 2, size: 400, serial: 1} },
		"a tail with a serial":    func(l []page) { l[15].serial = 7 },
	} {
		o := d.copy()
		harm(o.pages)
		x.draft(what, o, fault(form, -1))
	}
	for k, at := range []int{0, 0, 1, 2, 2, 2} {
		b := d.blocks()
		b[at][[]int{136, 255, 255, 64, 128, 255}[k]] = 1
		x.blocks(fmt.Sprint("a byte of a block of the Meta ", k), b, fault(form, -1))
	}
}

// P25.1: faults of all kinds at once, in their order.
func TestAllKinds(t *testing.T) {
	x := held(t, 33)
	d := blank(33, 30).byte(0, 3).small(1, 4, 0, 12, 40).small(1, 4, 2, 99, 1).small(2, 0, 4, 12, 8).great(3, 12, 700)
	d.byte(5, 190).small(6, 5, 1, 14, 33).byte(6, 255).great(7, 14, 121).byte(7, 254).small(32, 7, 0, 30, 1).small(32, 7, 1, 14, 120)
	d.root(0, 6, 1, 14).root(1, 7, 0, 14).root(2, 1, 1, 12).root(14, 32, 0, 30).root(15, 33, 0, 12)
	x.draft("all", d,
		fault(trace, 0), fault(trace, 5), fault(form, 6), fault(trace, 7),
		fault(late, 1), fault(twice, 2), fault(twice, 3), fault(late, 32), fault(twice, 32),
		fault(root, 0), fault(root, 2), fault(root, 15))
}

// refused fails unless a call answers an error, and no faults.
func refused(t *testing.T, what string, want api.Errno) func(l []check.Fault, e api.Errno) {
	return func(l []check.Fault, e api.Errno) {
		t.Helper()
		if e != want || len(l) != 0 {
			t.Errorf("%s: %v, error %d; not %d", what, l, e, want)
		}
	}
}

func bads() []api.Geo {
	return []api.Geo{{}, {Pages: 0, Tx: 4}, {Pages: -1, Tx: 4}, {Pages: 65, Tx: 4}, {Pages: 4, Tx: 3}, {Pages: 4, Tx: 25}, {Pages: 4, Tx: -4}, {Pages: math.MinInt, Tx: 4}, {Pages: math.MaxInt, Tx: math.MaxInt}}
}

// P25.1: geometries and blocks that may not be, ahead of all faults.
func TestRefused(t *testing.T) {
	d := blank(4, 0).byte(0, 0)
	d.pages[2].kind = 9
	l := d.blocks()
	for _, g := range bads() {
		refused(t, fmt.Sprint(g), api.ErrArg)(check.Blocks(g, l...))
		refused(t, fmt.Sprint(g, " without blocks"), api.ErrArg)(check.Blocks(g))
	}
	for _, n := range []int{1, 3, 4, 5, 16, 17, 33, 64} {
		g := api.Geo{Pages: n, Tx: 4}
		l := blank(n, 0).blocks()
		refused(t, "no blocks", api.ErrArg)(check.Blocks(g))
		refused(t, "no blocks", api.ErrArg)(check.Blocks(g, nil...))
		refused(t, "one too few", api.ErrArg)(check.Blocks(g, l[1:]...))
		refused(t, "one too many", api.ErrArg)(check.Blocks(g, append(l, make([]byte, wide))...))
		for k := range l {
			for _, b := range [][]byte{nil, {}, make([]byte, wide-1), make([]byte, wide+1), make([]byte, 2*wide)} {
				o := slices.Clone(l)
				o[k] = b
				refused(t, fmt.Sprintf("block %d of %d bytes", k, len(b)), api.ErrArg)(check.Blocks(g, o...))
				o[0] = slices.Repeat([]byte{9}, len(o[0]))
				refused(t, fmt.Sprintf("block %d of %d bytes, a bad head", k, len(b)), api.ErrArg)(check.Blocks(g, o...))
			}
		}
	}
}

// P25.1: nothing ties answers to what was handed in, or to one another: each is what it is when it is asked.
func TestApart(t *testing.T) {
	g := api.Geo{Pages: 4, Tx: 4}
	l := blank(4, 1).byte(1, 0).byte(3, 0).blocks()
	want := []check.Fault{fault(trace, 1), fault(trace, 3)}
	one, _ := check.Blocks(g, l...)
	two, _ := check.Blocks(g, l...)
	one[0] = fault(9, 9)
	_ = append(one[:1], fault(8, 8))
	three, _ := check.Blocks(g, l...)
	l[3][0], l[5][0] = 0, 0
	if !slices.Equal(two, want) || !slices.Equal(three, want) {
		t.Error(two, three)
	}
	bad := blank(4, 1).blocks()
	bad[0][255] = 1
	four, _ := check.Blocks(g, bad...)
	four[0] = fault(9, 9)
	if five, _ := check.Blocks(g, bad...); !slices.Equal(five, []check.Fault{fault(form, -1)}) {
		t.Error(five)
	}
}
