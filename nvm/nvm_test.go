package nvm_test

import (
	"bytes"
	"math"
	"slices"
	"testing"

	"garderobe/api"
	"garderobe/nvm"
)

// want fails if an error isn't the one that is asked for.
func want(t *testing.T, what string, got, want api.Errno) {
	t.Helper()
	if got != want {
		t.Errorf("%s: %d, not %d", what, got, want)
	}
}

// reads fails if a device doesn't read these bytes.
func reads(t *testing.T, d *nvm.Device, at int, b string) {
	t.Helper()
	if got, e := d.Load(at, len(b)); e != api.OK || string(got) != b {
		t.Errorf("at %d: %q, %d; not %q", at, got, e, b)
	}
}

// lasts fails if these bytes don't last.
func lasts(t *testing.T, d *nvm.Device, at int, b string) {
	t.Helper()
	if got := d.Image(); len(got) != d.Len() || string(got[at:at+len(b)]) != b {
		t.Errorf("%d bytes last, at %d %q; not %q", len(got), at, got[at:at+len(b)], b)
	}
}

// put stores bytes and makes them last.
func put(t *testing.T, d *nvm.Device, at int, b string) {
	t.Helper()
	want(t, "Store", d.Store(at, []byte(b)), api.OK)
	want(t, "Flush", d.Flush(at, len(b)), api.OK)
	want(t, "Fence", d.Fence(), api.OK)
	lasts(t, d, at, b)
}

// The chapter's constants.
func TestConstants(t *testing.T) {
	if nvm.Store != 1 || nvm.Flush != 2 || nvm.Fence != 3 || nvm.Other != 4 || nvm.MostActs != 16384 {
		t.Error(nvm.Store, nvm.Flush, nvm.Fence, nvm.Other, nvm.MostActs)
	}
}

// The chapter's example.
func TestExample(t *testing.T) {
	for _, picks := range [][]byte{nil, {1}} {
		d := nvm.New(1)
		put(t, d, 0, "ab")
		want(t, "Store", d.Store(0, []byte("cd")), api.OK)
		d.Crash(picks...)
		d.On()
		if len(picks) == 0 {
			reads(t, d, 0, "ab\x00")
		} else {
			reads(t, d, 0, "cd\x00")
		}
	}
}

// P8.1
func TestNewHasSoManyLines(t *testing.T) {
	rows := map[int]int{0: 0, -1: 0, math.MinInt: 0, 1: 1, 2: 2, 98: 98, 1023: 1023, 1024: 1024, 1025: 1024, 1 << 31: 1024, 1 << 58: 1024, math.MaxInt: 1024}
	for lines, n := range rows {
		d := nvm.New(lines)
		if d == nil || d.Len() != 64*n || d.Down() || d.Pending() != 0 || len(d.Acts()) != 0 {
			t.Fatalf("New(%d): %d bytes, down %v, %d pending, %d acts", lines, d.Len(), d.Down(), d.Pending(), len(d.Acts()))
		}
		b, e := d.Load(0, 64*n)
		if e != api.OK || !bytes.Equal(b, make([]byte, 64*n)) || !bytes.Equal(d.Image(), b) {
			t.Fatalf("New(%d) is not of noughts: %d", lines, e)
		}
		if n == 0 {
			want(t, "a byte of no line", d.Store(0, []byte{1}), api.ErrRange)
			continue
		}
		put(t, d, 64*n-3, "end")
		put(t, d, 0, "begin")
	}
}

// P8.1: a device of no line has its ends, and acts.
func TestDeviceOfNoLine(t *testing.T) {
	d := nvm.New(0)
	want(t, "Store", d.Store(0, nil), api.OK)
	want(t, "Flush", d.Flush(0, 0), api.OK)
	want(t, "Fence", d.Fence(), api.OK)
	want(t, "Do", d.Do(), api.OK)
	if b, e := d.Load(0, 0); e != api.OK || len(b) != 0 || !d.Tamper(0, nil) || d.Tamper(0, []byte{1}) || d.Tamper(1, nil) {
		t.Error("Load, Tamper", b, e)
	}
	if _, e := d.Load(0, 1); e != api.ErrRange {
		t.Error("Load beyond", e)
	}
	d.Crash(1)
	if !d.Down() || d.Pending() != 0 || len(d.Image()) != 0 || len(d.Acts()) != 4 {
		t.Error("behind a loss of power", d.Down(), d.Acts())
	}
}

// rows are places and numbers of bytes of a device of 128, and whether they are there.
func rows() map[[2]int]bool {
	l := map[[2]int]bool{}
	for _, at := range []int{0, 1, 7, 8, 63, 64, 65, 120, 127, 128} {
		for n := range 131 {
			l[[2]int{at, n}] = at+n <= 128
		}
	}
	big := []int{129, 130, 192, 1 << 31, 1 << 32, 1 << 62, math.MaxInt - 128, math.MaxInt - 127, math.MaxInt - 1, math.MaxInt}
	small := []int{-1, -7, -8, -64, -128, -129, math.MinInt32, math.MinInt + 1, math.MinInt, math.MinInt + 128}
	for _, far := range append(big, small...) {
		for _, other := range append([]int{0, 1, 64, 127, 128, far, -far}, small...) {
			l[[2]int{far, other}] = false
			l[[2]int{other, far}] = false
		}
	}
	return l
}

// P8.1, P8.3, P1: at the ends, and beyond, where sums go round, too.
func TestEndsOfADevice(t *testing.T) {
	d := nvm.New(2)
	acts := 0
	for r, there := range rows() {
		at, n, e := r[0], r[1], api.ErrRange
		if there {
			e = api.OK
		}
		if b, got := d.Load(at, n); got != e || there && len(b) != n || !there && len(b) != 0 {
			t.Errorf("Load(%d, %d): %d bytes, %d", at, n, len(b), got)
		}
		if got := d.Flush(at, n); got != e {
			t.Errorf("Flush(%d, %d): %d", at, n, got)
		} else if there {
			acts++
		}
		if n < 0 || n > 200 {
			continue
		}
		if got := d.Store(at, make([]byte, n)); got != e {
			t.Errorf("Store(%d, %d bytes): %d", at, n, got)
		} else if there {
			acts++
		}
		if got := d.Tamper(at, make([]byte, n)); got != there {
			t.Errorf("Tamper(%d, %d bytes): %v", at, n, got)
		}
	}
	if got := len(d.Acts()); got != acts {
		t.Errorf("%d acts, not %d", got, acts)
	}
}

// P8.1, rule 3: what is refused for its arguments changes nothing.
func TestWhatIsRefusedChangesNothing(t *testing.T) {
	d := nvm.New(1)
	put(t, d, 0, "0123456789")
	want(t, "Store", d.Store(40, []byte("pending")), api.OK)
	image, acts := d.Image(), d.Acts()
	want(t, "Store", d.Store(60, []byte("beyond")), api.ErrRange)
	want(t, "Store", d.Store(-1, []byte("ahead")), api.ErrRange)
	want(t, "Store", d.Store(65, nil), api.ErrRange)
	want(t, "Flush", d.Flush(40, 25), api.ErrRange)
	want(t, "Flush", d.Flush(-1, 64), api.ErrRange)
	if d.Tamper(60, []byte("beyond")) || d.Tamper(-1, []byte("ahead")) || d.Tamper(65, nil) {
		t.Error("Tamper")
	}
	if !bytes.Equal(d.Image(), image) || !slices.Equal(d.Acts(), acts) || d.Pending() != 1 || d.Down() {
		t.Error("changed", d.Acts(), d.Pending(), d.Down())
	}
	reads(t, d, 56, "\x00\x00\x00\x00\x00\x00\x00\x00")
	want(t, "Fence", d.Fence(), api.OK)
	if d.Pending() != 1 {
		t.Error("a Flush that was refused marked")
	}
}

// P8.1: which words are pending hangs on the bytes alone.
func TestStoreMakesWordsPending(t *testing.T) {
	for at := range 128 {
		for n := 0; at+n <= 128; n++ {
			d := nvm.New(2)
			want(t, "Store", d.Store(at, bytes.Repeat([]byte{7}, n)), api.OK)
			words := 0
			if n > 0 {
				words = (at+n-1)/8 - at/8 + 1
			}
			if d.Pending() != words {
				t.Fatalf("Store(%d, %d bytes): %d pending, not %d", at, n, d.Pending(), words)
			}
			reads(t, d, at, string(bytes.Repeat([]byte{7}, n)))
			if !bytes.Equal(d.Image(), make([]byte, 128)) {
				t.Fatal("it lasts already")
			}
		}
	}
	d := nvm.New(1)
	d.Store(3, []byte{0})
	if d.Pending() != 1 {
		t.Error("what is stored is what was there")
	}
	d.Store(4, []byte{1})
	d.Store(3, nil)
	if d.Pending() != 1 {
		t.Error("a word is pending once")
	}
}

// P8.1: a Flush marks all words of all lines that a byte lies in, and no other one.
func TestFlushMarksLines(t *testing.T) {
	for at := range 192 {
		for n := 0; at+n <= 192; n++ {
			d := nvm.New(3)
			d.Store(0, bytes.Repeat([]byte{9}, 192))
			want(t, "Flush", d.Flush(at, n), api.OK)
			if d.Pending() != 24 || !bytes.Equal(d.Image(), make([]byte, 192)) {
				t.Fatal("a Flush alone makes it last")
			}
			want(t, "Fence", d.Fence(), api.OK)
			image, left := make([]byte, 192), 24
			for l := range 3 {
				if n > 0 && at/64 <= l && l <= (at+n-1)/64 {
					copy(image[64*l:], bytes.Repeat([]byte{9}, 64))
					left -= 8
				}
			}
			if !bytes.Equal(d.Image(), image) || d.Pending() != left {
				t.Fatalf("Flush(%d, %d): %d pending, not %d", at, n, d.Pending(), left)
			}
		}
	}
}

// P8.1: a Fence makes last what is marked, as it is.
func TestFenceMakesMarkedWordsLast(t *testing.T) {
	d := nvm.New(1)
	d.Store(0, []byte("abcdefgh"))
	want(t, "Fence", d.Fence(), api.OK)
	lasts(t, d, 0, "\x00\x00")
	d.Flush(63, 1)
	d.Store(8, []byte("later"))
	d.Fence()
	lasts(t, d, 0, "abcdefgh\x00\x00")
	reads(t, d, 0, "abcdefghlater")
	if d.Pending() != 1 {
		t.Error("pending", d.Pending())
	}
	d.Fence()
	lasts(t, d, 8, "\x00")
	d.Flush(0, 1)
	d.Fence()
	lasts(t, d, 0, "abcdefghlater")
	if d.Pending() != 0 {
		t.Error("pending", d.Pending())
	}
}

// P8.1, P8.4: a word that is stored into behind its Flush is not marked any more, though it is but a byte of it.
func TestStoredIntoAgainBehindAFlush(t *testing.T) {
	d := nvm.New(1)
	d.Store(0, []byte("abcdefghABCDEFGH"))
	d.Flush(0, 16)
	d.Store(7, []byte("x"))
	d.Fence()
	lasts(t, d, 0, "\x00\x00\x00\x00\x00\x00\x00\x00ABCDEFGH")
	reads(t, d, 0, "abcdefgxABCDEFGH")
	if d.Pending() != 1 {
		t.Error("pending", d.Pending())
	}
	d.Crash()
	d.On()
	reads(t, d, 0, "\x00\x00\x00\x00\x00\x00\x00\x00ABCDEFGH")
	put(t, d, 0, "12345678")
	d.Store(0, []byte("9"))
	d.Flush(0, 1)
	d.Store(1, nil)
	d.Fence()
	lasts(t, d, 0, "92345678")
	d.Store(0, []byte("first"))
	d.Flush(0, 1)
	d.Store(0, []byte("second"))
	d.Flush(0, 1)
	d.Fence()
	lasts(t, d, 0, "second78")
}

// P8.1, P8.2: a mark doesn't outlast what it marked.
func TestMarksEnd(t *testing.T) {
	d := nvm.New(1)
	put(t, d, 0, "abc")
	d.Store(0, []byte("d"))
	d.Fence()
	lasts(t, d, 0, "abc")
	d.Flush(0, 1)
	d.Crash()
	d.On()
	want(t, "Fence", d.Fence(), api.OK)
	lasts(t, d, 0, "abc")
	d.Store(0, []byte("e"))
	d.Fence()
	lasts(t, d, 0, "abc")
	d.Flush(0, 0)
	d.Flush(64, 0)
	d.Flush(3, 0)
	d.Fence()
	lasts(t, d, 0, "abc")
	d.Crash(1)
	lasts(t, d, 0, "ebc")
}

// P8.2: pending words are picked by their places, not by when they were stored into.
func TestPicksGoByPlaces(t *testing.T) {
	places := []int{15, 2, 9, 8, 0, 7, 14} // words, as they are stored into
	rising := slices.Sorted(slices.Values(places))
	lists := [][]byte{nil, {}, {0}, {1}, {255}, {254}, {2}, {3}, {0, 1}, {1, 0}, {1, 0, 0}, {0, 0, 5}, {1, 1, 0, 0},
		{0, 1, 1, 1, 0, 0, 1}, {9, 8, 7, 6, 5, 4, 3, 2}, bytes.Repeat([]byte{1, 2, 2}, 1000)}
	for _, marked := range []bool{false, true} {
		for _, picks := range lists {
			d := nvm.New(2)
			put(t, d, 0, string(bytes.Repeat([]byte{1}, 128)))
			for _, w := range places {
				d.Store(8*w+w%8, []byte{2})
			}
			if marked {
				d.Flush(0, 128)
			}
			image := bytes.Repeat([]byte{1}, 128)
			for j, w := range rising {
				if len(picks) > 0 && picks[j%len(picks)]&1 == 1 {
					image[8*w+w%8] = 2
				}
			}
			was := bytes.Clone(picks)
			d.Crash(picks...)
			if !d.Down() || d.Pending() != 0 || !bytes.Equal(d.Image(), image) || !bytes.Equal(picks, was) {
				t.Fatalf("picks % x: down %v, %d pending\n% x, not\n% x", picks, d.Down(), d.Pending(), d.Image(), image)
			}
			d.On()
			reads(t, d, 0, string(image))
		}
	}
}

// P8.1, P8.2: while the power is off.
func TestPowerIsOff(t *testing.T) {
	d := nvm.New(1)
	put(t, d, 0, "abc")
	d.Store(8, []byte("pending"))
	if d.Down() {
		t.Error("it was on")
	}
	d.Crash()
	acts := d.Acts()
	for _, at := range []int{0, 8, 64, 65, -1, math.MaxInt, math.MinInt} {
		for _, n := range []int{0, 1, 64, 65} {
			want(t, "Store", d.Store(at, make([]byte, n)), api.ErrDown)
			want(t, "Flush", d.Flush(at, n), api.ErrDown)
			if b, e := d.Load(at, n); e != api.ErrDown || len(b) != 0 {
				t.Error("Load", b, e)
			}
		}
	}
	want(t, "Flush", d.Flush(0, -1), api.ErrDown)
	want(t, "Fence", d.Fence(), api.ErrDown)
	want(t, "Do", d.Do(), api.ErrDown)
	if !slices.Equal(d.Acts(), acts) || !d.Down() || d.Len() != 64 || d.Pending() != 0 {
		t.Error("acts while the power is off", d.Acts())
	}
	lasts(t, d, 0, "abc\x00\x00\x00\x00\x00\x00")
	d.Crash(1)
	d.On()
	if d.Down() {
		t.Error("it is on")
	}
	reads(t, d, 0, "abc\x00\x00\x00\x00\x00\x00")
	put(t, d, 8, "again")
	d.On()
	reads(t, d, 0, "abc\x00\x00\x00\x00\x00again")
}

// step is something that may count as an act.
type step struct {
	name string
	do   func(d *nvm.Device) api.Errno
	want api.Errno // while the power is on
	act  nvm.Act
}

// steps are acts of all kinds, refused calls among them.
func steps() []step {
	return []step{
		{"Store", func(d *nvm.Device) api.Errno { return d.Store(4, []byte("abcdefgh")) }, api.OK, nvm.Act{Kind: 1, At: 4, N: 8}},
		{"Store beyond", func(d *nvm.Device) api.Errno { return d.Store(60, []byte("abcdefgh")) }, api.ErrRange, nvm.Act{}},
		{"Flush", func(d *nvm.Device) api.Errno { return d.Flush(6, 1) }, api.OK, nvm.Act{Kind: 2, At: 6, N: 1}},
		{"Flush beyond", func(d *nvm.Device) api.Errno { return d.Flush(1, math.MaxInt) }, api.ErrRange, nvm.Act{}},
		{"Load", func(d *nvm.Device) api.Errno { _, e := d.Load(0, 64); return e }, api.OK, nvm.Act{}},
		{"Store again", func(d *nvm.Device) api.Errno { return d.Store(8, []byte("xy")) }, api.OK, nvm.Act{Kind: 1, At: 8, N: 2}},
		{"Fence", (*nvm.Device).Fence, api.OK, nvm.Act{Kind: 3}},
		{"Store of nothing", func(d *nvm.Device) api.Errno { return d.Store(64, nil) }, api.OK, nvm.Act{Kind: 1, At: 64}},
		{"Flush of nothing", func(d *nvm.Device) api.Errno { return d.Flush(33, 0) }, api.OK, nvm.Act{Kind: 2, At: 33}},
		{"Do", (*nvm.Device).Do, api.OK, nvm.Act{Kind: 4}},
		{"Store at the end", func(d *nvm.Device) api.Errno { return d.Store(63, []byte("z")) }, api.OK, nvm.Act{Kind: 1, At: 63, N: 1}},
		{"Fence again", (*nvm.Device).Fence, api.OK, nvm.Act{Kind: 3}},
	}
}

// acts are those of some steps that are kept.
func acts(l []step) []nvm.Act {
	var out []nvm.Act
	for _, s := range l {
		if s.act != (nvm.Act{}) {
			out = append(out, s.act)
		}
	}
	return out
}

// run does steps, all of which answer as they do while the power is on.
func run(t *testing.T, d *nvm.Device, l []step) {
	t.Helper()
	for _, s := range l {
		want(t, s.name, s.do(d), s.want)
	}
}

// P8.2, P8.3: which calls are acts, and how each is kept.
func TestActsAreKept(t *testing.T) {
	d := nvm.New(1)
	for k, s := range steps() {
		run(t, d, []step{s})
		if got, want := d.Acts(), acts(steps()[:k+1]); !slices.Equal(got, want) {
			t.Fatalf("behind %s: %v, not %v", s.name, got, want)
		}
	}
	all := len(d.Acts())
	d.Tamper(0, []byte("x"))
	d.Arm(100)
	d.Arm(0)
	d.Crash()
	d.On()
	d.Image()
	if len(d.Acts()) != all {
		t.Error("what is no act is kept", d.Acts())
	}
	run(t, d, steps())
	if got, want := d.Acts(), append(acts(steps()), acts(steps())...); !slices.Equal(got, want) {
		t.Errorf("behind a loss of power: %v, not %v", got, want)
	}
}

// P8.2: Arm at each act: it doesn't happen, the power goes with the picks, and it isn't kept.
func TestArmAtEachAct(t *testing.T) {
	list := steps()
	for _, picks := range [][]byte{nil, {1}, {0, 1}, {1, 0}} {
		for at, s := range list {
			n := len(acts(list[:at+1]))
			if s.act == (nvm.Act{}) {
				continue
			}
			d, other := nvm.New(1), nvm.New(1)
			given := bytes.Clone(picks)
			d.Arm(n, given...)
			for k := range given {
				given[k] ^= 1 // it isn't kept
			}
			run(t, d, list[:at])
			run(t, other, list[:at])
			want(t, "the armed "+s.name, s.do(d), api.ErrDown)
			other.Crash(picks...)
			if !d.Down() || d.Pending() != 0 || !bytes.Equal(d.Image(), other.Image()) || !slices.Equal(d.Acts(), acts(list[:at])) {
				t.Fatalf("armed at act %d with % x: down %v\n% x, not\n% x\n%v", n, picks, d.Down(), d.Image(), other.Image(), d.Acts())
			}
			want(t, "behind it", d.Do(), api.ErrDown)
			d.On()
			other.On()
			run(t, d, list)
			run(t, other, list)
			if d.Down() || !bytes.Equal(d.Image(), other.Image()) {
				t.Fatalf("armed at act %d: it goes again", n)
			}
		}
	}
}

// P8.2: a Crash, an On and a later Arm take an Arm back; of acts below 1 none will.
func TestArmIsTakenBack(t *testing.T) {
	rows := map[string]func(d *nvm.Device){
		"a Crash and an On": func(d *nvm.Device) { d.Crash(); d.On() },
		"an On":             func(d *nvm.Device) { d.On() },
		"Arm of 0":          func(d *nvm.Device) { d.Arm(0) },
		"Arm of 0, picks":   func(d *nvm.Device) { d.Arm(0, 1, 2, 3) },
		"Arm below 0":       func(d *nvm.Device) { d.Arm(-1, 1) },
		"Arm of the least":  func(d *nvm.Device) { d.Arm(math.MinInt) },
		"Arm of many":       func(d *nvm.Device) { d.Arm(1000) },
		"Arm of the most":   func(d *nvm.Device) { d.Arm(math.MaxInt, 1) },
		"Arm in the dark":   func(d *nvm.Device) { d.Crash(); d.Arm(1); d.On() },
		"Crash in the dark": func(d *nvm.Device) { d.Crash(); d.Arm(2); d.Crash(1); d.On() },
	}
	for name, back := range rows {
		d := nvm.New(1)
		d.Arm(3, 1)
		d.Do()
		back(d)
		for range 20 {
			want(t, name, d.Do(), api.OK)
		}
		run(t, d, steps())
	}
	d := nvm.New(1)
	d.Store(0, []byte("abcdefghi"))
	d.Arm(9, 1)
	d.Do()
	d.Arm(2, 0, 1)
	want(t, "the first one", d.Do(), api.OK)
	want(t, "the one that is told later", d.Do(), api.ErrDown)
	lasts(t, d, 0, "\x00\x00\x00\x00\x00\x00\x00\x00i")
}

// P8.2: what is refused, what reads and what others do is not counted.
func TestArmCountsActsAlone(t *testing.T) {
	d := nvm.New(1)
	d.Arm(1, 1)
	for range 3 {
		want(t, "Store", d.Store(64, []byte{1}), api.ErrRange)
		want(t, "Flush", d.Flush(64, 1), api.ErrRange)
		reads(t, d, 0, "\x00")
		if d.Tamper(64, []byte{1}) || !d.Tamper(0, []byte{0}) || d.Down() {
			t.Error("Tamper", d.Down())
		}
		d.Pending()
		d.Image()
		d.Acts()
		d.Len()
	}
	want(t, "Fence", d.Fence(), api.ErrDown)
	if len(d.Acts()) != 0 {
		t.Error(d.Acts())
	}
}

// P8.3: others write into words that last, are pending, are marked.
func TestOthersWrite(t *testing.T) {
	d := nvm.New(1)
	put(t, d, 0, "abcdefghABCDEFGH")
	d.Store(0, []byte("12345678"))
	d.Flush(0, 8)
	d.Store(8, []byte("87654321"))
	n := len(d.Acts())
	if !d.Tamper(6, []byte("####")) {
		t.Fatal("Tamper")
	}
	reads(t, d, 0, "123456####654321\x00")
	lasts(t, d, 0, "abcdef####CDEFGH\x00")
	if d.Pending() != 2 || len(d.Acts()) != n {
		t.Error("pending", d.Pending(), d.Acts())
	}
	d.Fence()
	lasts(t, d, 0, "123456####CDEFGH\x00")
	reads(t, d, 0, "123456####654321\x00")
	if d.Pending() != 1 {
		t.Error("a mark was turned", d.Pending())
	}
	d.Crash()
	lasts(t, d, 0, "123456####CDEFGH\x00")
	d.On()
	reads(t, d, 0, "123456####CDEFGH\x00")
	d.Store(8, []byte("zzzzzzzz"))
	d.Tamper(15, []byte("!"))
	d.Crash(1)
	lasts(t, d, 0, "123456##zzzzzzz!\x00")
}

// P8.3: others write while the power is off, at the ends, too.
func TestOthersWriteWhileThePowerIsOff(t *testing.T) {
	d := nvm.New(2)
	d.Crash()
	if !d.Tamper(60, []byte("in the dark")) || !d.Tamper(127, []byte("z")) || !d.Tamper(0, []byte("a")) || !d.Tamper(128, nil) {
		t.Fatal("Tamper")
	}
	if d.Tamper(127, []byte("yz")) || d.Tamper(-1, []byte("a")) || d.Tamper(math.MaxInt, []byte("a")) || !d.Down() || d.Pending() != 0 {
		t.Error("beyond the end")
	}
	lasts(t, d, 60, "in the dark")
	d.On()
	reads(t, d, 59, "\x00in the dark\x00")
	reads(t, d, 126, "\x00z")
	reads(t, d, 0, "a\x00")
	d.Crash(1)
	lasts(t, d, 59, "\x00in the dark\x00")
}

// P8.2, P8.3: the first 2^14 acts are kept; those beyond happen, and are counted by an Arm.
func TestActsBeyondThoseThatAreKept(t *testing.T) {
	d := nvm.New(1)
	for k := range nvm.MostActs - 1 {
		if d.Flush(k%65, 0) != api.OK || k%1000 == 0 && len(d.Acts()) != k+1 {
			t.Fatal("act", k, len(d.Acts()))
		}
	}
	want(t, "the last one", d.Do(), api.OK)
	put(t, d, 0, "beyond")
	d.Arm(3)
	want(t, "Do", d.Do(), api.OK)
	want(t, "Do", d.Do(), api.OK)
	want(t, "Do", d.Do(), api.ErrDown)
	l := d.Acts()
	if len(l) != 16384 || l[16383] != (nvm.Act{Kind: nvm.Other}) {
		t.Fatal(len(l), l[len(l)-1])
	}
	for k, a := range l[:16383] {
		if a != (nvm.Act{Kind: nvm.Flush, At: k % 65}) {
			t.Fatal("act", k, a)
		}
	}
}

// Rules 4 and 5: what is handed in is neither changed nor kept.
func TestWhatIsHandedInIsNeitherChangedNorKept(t *testing.T) {
	d := nvm.New(1)
	b := []byte("0123456789abcdef....")
	d.Store(3, b[:16])
	d.Tamper(30, b[:16])
	if string(b) != "0123456789abcdef...." {
		t.Fatalf("changed: %q", b)
	}
	clear(b)
	reads(t, d, 3, "0123456789abcdef\x00")
	reads(t, d, 30, "0123456789abcdef\x00")
	lasts(t, d, 30, "0123456789abcdef\x00")
	d.Store(3, []byte("x"))
	d.Tamper(30, []byte("y"))
	if b[0] != 0 {
		t.Error("what was handed in is written into")
	}
	picks := []byte{1, 0}
	d.Arm(1, picks...)
	clear(picks)
	want(t, "Do", d.Do(), api.ErrDown)
	lasts(t, d, 3, "x1234\x00")
	if !bytes.Equal(picks, []byte{0, 0}) {
		t.Error("picks", picks)
	}
}

// Rule 4: what a caller writes into an answer, or appends to it, is seen nowhere else.
func TestAnswersAreTheirOwn(t *testing.T) {
	d := nvm.New(1)
	put(t, d, 0, "abcdefghijkl")
	for range 2 {
		b, _ := d.Load(0, 4)
		clear(b)
		_ = append(b, 1, 2, 3, 4)
		i := d.Image()
		clear(i)
		_ = append(i[:5], 9, 9, 9)
		l := d.Acts()
		clear(l)
		_ = append(l[:1], nvm.Act{Kind: 9})
		_ = append(l, nvm.Act{Kind: 9})
		reads(t, d, 0, "abcdefghijkl")
		lasts(t, d, 0, "abcdefghijkl")
		if got := d.Acts(); !slices.Equal(got, []nvm.Act{{1, 0, 12}, {2, 0, 12}, {3, 0, 0}}) {
			t.Fatal("acts", got)
		}
	}
	was := d.Acts()
	_ = append(was, nvm.Act{Kind: 9})
	d.Do()
	if got := d.Acts(); len(was) != 3 || len(got) != 4 || got[3] != (nvm.Act{Kind: nvm.Other}) {
		t.Error("acts", was, got)
	}
	b, _ := d.Load(0, 3)
	i := d.Image()
	put(t, d, 0, "later")
	if string(b) != "abc" || string(i[:5]) != "abcde" {
		t.Errorf("an answer was changed: %q, %q", b, i[:5])
	}
}

// P8.1 to P8.3, P1: nil devices.
func TestNilDevice(t *testing.T) {
	var d *nvm.Device
	for _, at := range []int{0, 1, -1, math.MaxInt, math.MinInt} {
		for _, n := range []int{0, 1, -1, math.MaxInt, math.MinInt} {
			want(t, "Flush", d.Flush(at, n), api.ErrNil)
			if b, e := d.Load(at, n); e != api.ErrNil || len(b) != 0 {
				t.Error("Load", b, e)
			}
		}
		want(t, "Store", d.Store(at, nil), api.ErrNil)
		want(t, "Store", d.Store(at, []byte("abc")), api.ErrNil)
		if d.Tamper(at, nil) || d.Tamper(at, []byte("abc")) {
			t.Error("Tamper")
		}
		d.Arm(at)
		d.Arm(at, 1, 2)
	}
	want(t, "Fence", d.Fence(), api.ErrNil)
	want(t, "Do", d.Do(), api.ErrNil)
	d.Crash()
	d.Crash(1, 2)
	d.On()
	if d.Down() || d.Len() != 0 || d.Pending() != 0 || len(d.Image()) != 0 || len(d.Acts()) != 0 {
		t.Error("a nil device tells something")
	}
}

// P1: a device that New did not make has no line.
func TestDeviceThatNobodyMade(t *testing.T) {
	d := &nvm.Device{}
	want(t, "Store", d.Store(0, []byte{1}), api.ErrRange)
	want(t, "Fence", d.Fence(), api.OK)
	d.Arm(1)
	want(t, "Do", d.Do(), api.ErrDown)
	if d.Len() != 0 || !d.Down() || len(d.Acts()) != 1 {
		t.Error(d.Len(), d.Down(), d.Acts())
	}
}

// Rule 6: devices know nothing of each other.
func TestDevicesAreApart(t *testing.T) {
	one, other := nvm.New(1), nvm.New(1)
	put(t, one, 0, "abc")
	one.Arm(1)
	other.Tamper(9, []byte("x"))
	if e := other.Do(); e != api.OK || other.Pending() != 0 || len(other.Acts()) != 1 || other.Image()[0] != 0 || one.Image()[9] != 0 {
		t.Error("another device")
	}
	one.Crash()
	if other.Down() {
		t.Error("another device's power")
	}
}
