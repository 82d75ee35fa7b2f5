package play_test

import (
	"bytes"
	"fmt"
	"math"
	"slices"
	"testing"

	"garderobe/alloc"
	"garderobe/api"
	"garderobe/geom"
	"garderobe/nvm"
	"garderobe/play"
	"garderobe/script"
	"garderobe/store"
)

// The chapter's example, and those of the whole that a world shows at once.
func TestExample(t *testing.T) {
	w := made(t, setup(8, 6), just(script.Format), opens(true))
	if n := w.Base().T.Read().Count; n != 3 {
		t.Error("the register's count is", n)
	}
	is(t, "Alloc", good(t, w, just(script.Begin), allocs(5)), play.Answer{V: 1})
	is(t, "Stat", good(t, w, just(script.Commit), just(script.Stat)), stat(alloc.Stat{Free: 7, Slots: 1, Objects: 1, Bytes: 5}))
	is(t, "Read", good(t, w, just(script.Close), opens(false), reads(0, 0, 5)), play.Answer{B: make([]byte, 5)})
}

// new fails unless New refuses a setup, or makes a world that stands as the words say.
func makes(t *testing.T, s play.Setup, may bool) {
	t.Helper()
	w, e := play.New(s)
	if !may {
		if e != api.ErrArg || w != nil {
			t.Errorf("New of %v, a key of %d: error %d, %v", s.G, len(s.Key), e, w != nil)
		}
		return
	}
	if e != api.OK || w == nil || w.Heap() == nil {
		t.Fatalf("New of %v, a key of %d: error %d", s.G, len(s.Key), e)
	}
	b := w.Base()
	n := geom.Bytes(geom.Total(s.G))
	if b.G != s.G || b.D.Len() != n || !bytes.Equal(b.D.Image(), make([]byte, n)) || b.D.Down() || len(b.D.Acts()) != 0 {
		t.Errorf("New of %v: geometry %v, %d bytes, %d acts", s.G, b.G, b.D.Len(), len(b.D.Acts()))
	}
	if b.T.Read() != (api.Reg{Count: s.Count}) || len(b.S.Used()) != 0 || b.B.Len() != 0 || w.Heap().State() != api.ErrClosed {
		t.Errorf("New of %v: %v, %d nonces, %d texts, State %d", s.G, b.T.Read(), len(b.S.Used()), b.B.Len(), w.Heap().State())
	}
}

// P28.1: geometries, keys and counts.
func TestNew(t *testing.T) {
	for _, pages := range []int{math.MinInt, -1, 0, 1, 2, 16, 17, 33, 63, 64, 65, 100, math.MaxInt} {
		for _, tx := range []int{math.MinInt, -1, 0, 3, 4, 5, 23, 24, 25, math.MaxInt} {
			makes(t, setup(pages, tx), pages >= 1 && pages <= 64 && tx >= 4 && tx <= 24)
		}
	}
	for n := range 70 {
		s := setup(3, 4)
		s.Key = text(2, n)
		makes(t, s, n == 16 || n == 32)
		s.G.Tx = 3
		makes(t, s, false)
	}
	for _, n := range []uint64{0, 1, 3, 1 << 40, api.MaxCount - 3, api.MaxCount - 2, api.MaxCount - 1, api.MaxCount} {
		s := setup(2, 4)
		s.Count = n
		makes(t, s, true)
	}
	makes(t, play.Setup{}, false)
	makes(t, play.Setup{G: api.Geo{Pages: 1, Tx: 4}}, false)
	makes(t, play.Setup{Key: text(1, 16)}, false)
}

// P28.1: what is hidden, is hidden by the key that was handed in; each world has its own of all.
func TestKey(t *testing.T) {
	images := map[string]int{}
	for k, key := range [][]byte{text(1, 32), text(1, 16), text(3, 32), make([]byte, 32), make([]byte, 16)} {
		s := setup(3, 4)
		s.Key = key
		w, o := made(t, s, just(script.Format)), newOther(t, s)
		o.do(just(script.Format))
		alike(t, fmt.Sprint("key ", k), w.Base(), o.base, w.Heap(), o.heap)
		if old, ok := images[string(w.Base().D.Image())]; ok {
			t.Error("keys", old, k, "hide alike")
		}
		images[string(w.Base().D.Image())] = k
	}
	a, b := made(t, setup(3, 4), just(script.Format)), made(t, setup(3, 4))
	if b.Base().B.Len() != 0 || len(b.Base().S.Used()) != 0 || b.Base().T.Read().Count != 0 || b.Base().D == a.Base().D || a.Heap() == b.Heap() {
		t.Error("two worlds are not apart")
	}
}

// P28.1: what a world's base and heap are, stays.
func TestBase(t *testing.T) {
	w := made(t, setup(3, 4))
	b, h := w.Base(), w.Heap()
	good(t, w, append(begun(), allocs(3), just(script.Commit), crashes(), just(script.On), opens(true), just(script.Close), just(script.Format))...)
	if w.Base() != b || w.Heap() != h {
		t.Error("they became others")
	}
	if e := h.Open(false); e != api.OK || w.Do(just(script.Begin)).E != api.ErrReadOnly {
		t.Error("the heap is not the world's", e)
	}
}

// every is an act of every kind that may be.
func every() []script.Act {
	return []script.Act{
		just(script.Format), opens(true), just(script.Close), just(script.Begin), just(script.Commit), just(script.Abort),
		allocs(7), frees(1), reallocs(0, 100), writes(0, 1, 'E', 'L'), reads(0, 1, 3), sets(5, 1), roots(3), sizes(1),
		just(script.Stat), just(script.Check), crashes(1), arms(1, 1), tampers(3, []byte{4}), just(script.On),
	}
}

// P28.1, P28.2, P1: a nil world, and one that New did not make.
func TestNil(t *testing.T) {
	for what, w := range map[string]*play.World{"nil": nil, "empty": {}} {
		if w.Heap() != nil || w.Base() != (store.Base{}) {
			t.Error(what, "Heap, Base")
		}
		for k, a := range append(every(), script.Act{Kind: -1}, script.Act{Kind: 20}, allocs(-1)) {
			is(t, fmt.Sprint(what, " kind ", k), w.Do(a), fails(api.ErrNil))
		}
		l := w.Run(just(script.Format), script.Act{Kind: -1}, roots(1))
		if len(l) != 3 || len(w.Run()) != 0 {
			t.Fatal(what, "Run:", len(l))
		}
		for _, x := range l {
			is(t, what+" Run", x, fails(api.ErrNil))
		}
	}
}

// stands are worlds in each of the ways in which a heap can stand; but for the first, there are two objects: one of
// five bytes, which root 3 is, and a great one.
func stands(t *testing.T) []*play.World {
	t.Helper()
	with := append(begun(), allocs(5), allocs(300), writes(0, 0, []byte("hello")...), sets(3, 0), just(script.Commit))
	at := func(l ...script.Act) *play.World {
		return made(t, setup(6, 10), append(append(append([]script.Act{}, with...), just(script.Close)), l...)...)
	}
	return []*play.World{made(t, setup(6, 10)), at(), at(opens(false)), at(opens(true)), at(opens(true), just(script.Begin))}
}

// P28.2: each kind, in each way in which a heap can stand: before a Format, closed, open for reading, open for
// writing, in a transaction.
func TestKinds(t *testing.T) {
	const ok, open, closed, notx, bad = api.OK, api.ErrOpen, api.ErrClosed, api.ErrNoTx, api.ErrTampered
	inside := []api.Errno{closed, closed, notx, notx, ok}
	any := []api.Errno{closed, closed, ok, ok, ok}
	outside := []api.Errno{ok, ok, ok, ok, ok}
	errs := [][]api.Errno{
		{ok, ok, open, open, open}, {bad, ok, open, open, open}, any,
		{closed, closed, api.ErrReadOnly, ok, api.ErrNested}, inside, inside,
		inside, inside, inside, inside, any, inside, any, any, any, any, outside, outside, outside, outside,
	}
	answers := map[int]play.Answer{
		script.Alloc:   {V: 0x0001000000000003},
		script.Realloc: {V: 0x0300000000000003},
		script.Read:    {B: []byte("ell")},
		script.Root:    {V: 1},
		script.Size:    {V: 300},
		script.Stat:    {Stat: alloc.Stat{Free: 3, Slots: 1, Great: 2, Objects: 2, Bytes: 305}},
	}
	for kind, a := range every() {
		is(t, fmt.Sprint("kind ", kind, ", behind a Format"), made(t, setup(6, 10), just(script.Format)).Do(a), fails(errs[kind][1]))
		for k, w := range stands(t) {
			want := fails(errs[kind][k])
			if want.E == api.OK {
				want = answers[kind]
			}
			what := fmt.Sprint("kind ", kind, ", way ", k)
			was := held(t, w)
			is(t, what, w.Do(a), want)
			if want.E != api.OK && held(t, w) != was {
				t.Error(what, "is refused, but changes something")
			}
		}
	}
}

// P28.2: what calls that are OK do.
func TestDeeds(t *testing.T) {
	in := func() *play.World { return stands(t)[4] }
	w := in()
	is(t, "Realloc in its place", good(t, w, reallocs(0, 6)), play.Answer{V: 1})
	is(t, "Read of more", good(t, w, reads(0, 0, 6)), play.Answer{B: []byte("hello\x00")})
	is(t, "Realloc elsewhere", good(t, w, reallocs(0, 9)), play.Answer{V: 0x0300000000000003})
	is(t, "Root", good(t, w, roots(3)), play.Answer{V: 0x0300000000000003})
	is(t, "Size", good(t, w, sizes(1)), play.Answer{V: 9})
	w = in()
	is(t, "Write", good(t, w, writes(0, 1, 'E', 'L')), play.Answer{})
	is(t, "Read", good(t, w, reads(0, 0, 5)), play.Answer{B: []byte("hELlo")})
	is(t, "Write of a great one", good(t, w, writes(1, 255, 7, 8)), play.Answer{})
	is(t, "Read of a great one", good(t, w, reads(1, 254, 4)), play.Answer{B: []byte{0, 7, 8, 0}})
	is(t, "Read of none", good(t, w, reads(1, 300, 0)), play.Answer{})
	is(t, "Set", good(t, w, sets(15, 1)), play.Answer{})
	is(t, "Root 15", good(t, w, roots(15)), play.Answer{V: 0x0100000000000002})
	is(t, "Set of none", good(t, w, unsets(15)), play.Answer{})
	is(t, "Root 15 is none", good(t, w, roots(15)), play.Answer{})
	is(t, "Set with Yes, and Which", good(t, w, script.Act{Kind: script.Set, K: 3, Which: 1, Yes: true}), play.Answer{})
	is(t, "Root 3 is none", good(t, w, roots(3)), play.Answer{})
	is(t, "Free", good(t, w, frees(0)), play.Answer{})
	is(t, "Stat", good(t, w, just(script.Stat)), stat(alloc.Stat{Free: 4, Great: 2, Objects: 1, Bytes: 300}))
	is(t, "Size of the first one that is left", good(t, w, sizes(0)), play.Answer{V: 300})
	is(t, "Abort", good(t, w, just(script.Abort)), play.Answer{})
	is(t, "Stat behind it", good(t, w, just(script.Stat)), stat(alloc.Stat{Free: 3, Slots: 1, Great: 2, Objects: 2, Bytes: 305}))
	is(t, "Root behind it", good(t, w, roots(3)), play.Answer{V: 1})
	good(t, w, just(script.Begin), frees(1), just(script.Commit), just(script.Close), opens(false))
	is(t, "Stat, opened again", good(t, w, just(script.Stat)), stat(alloc.Stat{Free: 5, Slots: 1, Objects: 1, Bytes: 5}))
	is(t, "Begin of reading", w.Do(just(script.Begin)), fails(api.ErrReadOnly))
}

// P28.2: calls in a transaction that are refused answer an error, and nothing else.
func TestRefused(t *testing.T) {
	for _, c := range []struct {
		a script.Act
		e api.Errno
	}{
		{allocs(0), api.ErrSize}, {allocs(4097), api.ErrSize}, {allocs(65535), api.ErrSize}, {allocs(4096), api.ErrNoSpace}, {allocs(769), api.ErrNoSpace},
		{reallocs(0, 0), api.ErrSize}, {reallocs(1, 4097), api.ErrSize}, {reallocs(0, 4096), api.ErrNoSpace}, {reallocs(2, 0), api.ErrHandle}, {reallocs(2, 5), api.ErrHandle},
		{frees(2), api.ErrHandle}, {frees(65535), api.ErrHandle},
		{writes(0, 4, 1, 2), api.ErrRange}, {writes(0, 6), api.ErrRange}, {writes(1, 65535, 1), api.ErrRange}, {writes(2, 0, 1), api.ErrHandle}, {writes(2, 0), api.ErrHandle},
		{reads(0, 5, 1), api.ErrRange}, {reads(0, 0, 6), api.ErrRange}, {reads(1, 65535, 65535), api.ErrRange}, {reads(2, 0, 0), api.ErrHandle},
		{sizes(2), api.ErrHandle}, {sizes(65535), api.ErrHandle},
		{roots(16), api.ErrArg}, {roots(65535), api.ErrArg}, {sets(16, 0), api.ErrArg}, {sets(65535, 9), api.ErrArg}, {unsets(16), api.ErrArg},
	} {
		w := stands(t)[4]
		was := held(t, w)
		is(t, fmt.Sprintf("%+v", c.a), w.Do(c.a), fails(c.e))
		if held(t, w) != was {
			t.Errorf("%+v changed something", c.a)
		}
	}
}

// P28.2: an act whose Which is beyond the last object is done with 0: a Set takes the root away.
func TestWhich(t *testing.T) {
	for _, which := range []int{2, 3, 65535} {
		w := stands(t)[4]
		is(t, "Set beyond the last one", good(t, w, sets(3, which)), play.Answer{})
		is(t, "Root", good(t, w, roots(3)), play.Answer{})
	}
	w := stands(t)[4]
	for n := 2; n < 40; n++ { // one more object in each round
		is(t, "Size of one beyond", w.Do(sizes(n)), fails(api.ErrHandle))
		x := w.Do(allocs(1))
		if x.E == api.ErrNoSpace {
			return
		}
		if x.E != api.OK {
			t.Fatalf("object %d: error %d", n, x.E)
		}
		l, _ := w.Heap().Walk()
		for k, o := range l {
			is(t, fmt.Sprint("Set of ", k), good(t, w, sets(1, k)), play.Answer{})
			is(t, fmt.Sprint("Root of ", k), good(t, w, roots(1)), play.Answer{V: uint64(o.H)})
			is(t, fmt.Sprint("Size of ", k), good(t, w, sizes(k)), play.Answer{V: uint64(o.N)})
		}
	}
}

// P28.2: acts that may not be: ErrArg, in each way in which a heap can stand, and nothing is done.
func TestMayNot(t *testing.T) {
	var l []script.Act
	for _, kind := range []int{-1, 20, 256, math.MaxInt, math.MinInt} {
		l = append(l, just(kind))
	}
	for _, n := range []int{-1, 65536, math.MaxInt, math.MinInt} {
		l = append(l, allocs(n), frees(n), reallocs(0, n), reallocs(n, 8), writes(n, 0, 1), writes(0, n, 1), reads(n, 0, 1), reads(0, n, 1), reads(0, 0, n), sets(n, 0), sets(0, n), roots(n), sizes(n), arms(n, 1), tampers(n, []byte{1}))
	}
	long := make([]byte, 1025)
	l = append(l, writes(1, 0, long...), crashes(long...), arms(1, long...), tampers(0, long))
	for kind := range 20 {
		for _, a := range []script.Act{{Yes: true}, {Which: 1}, {K: 1}, {N: 1}, {At: 1}, {B: []byte{1}}} {
			if a.Kind = kind; !script.May(a) {
				l = append(l, a)
			}
		}
	}
	for k, w := range stands(t) {
		good(t, w, arms(1000))
		was := held(t, w) + shot(w.Base(), w.Heap())
		for _, a := range l {
			if script.May(a) {
				t.Fatalf("%+v may be", a)
			}
			is(t, fmt.Sprintf("%+v, way %d", a, k), w.Do(a), fails(api.ErrArg))
		}
		if held(t, w)+shot(w.Base(), w.Heap()) != was {
			t.Errorf("way %d: something was done", k)
		}
	}
}

// P28.2: Run of no acts, and of many.
func TestRun(t *testing.T) {
	l := append(begun(), allocs(5), script.Act{Kind: 99}, writes(0, 0, 1, 2), allocs(5000), reads(0, 0, 3), just(script.Commit), just(script.Stat), crashes(), opens(true), just(script.On), opens(false), sizes(0))
	a, b := made(t, setup(4, 4)), made(t, setup(4, 4))
	if out := a.Run(); len(out) != 0 {
		t.Error("Run of none", out)
	}
	for n := range 4 { // the acts are cut into pieces that are run one behind the other
		from, to := n*len(l)/4, (n+1)*len(l)/4
		out := a.Run(l[from:to]...)
		if len(out) != to-from {
			t.Fatal("Run:", len(out), "answers")
		}
		for k, x := range out {
			is(t, fmt.Sprint("act ", from+k), x, b.Do(l[from+k]))
			if !play.Same(x, x) {
				t.Error("Same")
			}
		}
	}
	alike(t, "Run", a.Base(), b.Base(), a.Heap(), b.Heap())
	many := slices.Repeat([]script.Act{just(script.Format), roots(2), crashes(), just(script.On)}, 200)
	out := made(t, setup(1, 4)).Run(many...)
	if len(out) != len(many) {
		t.Fatal("Run of many:", len(out))
	}
	for k, x := range out {
		is(t, fmt.Sprint("one of many, ", k), x, fails([]api.Errno{api.OK, api.ErrClosed, api.OK, api.OK}[k%4]))
	}
}

// P28.2: answers that differ in one field alone.
func TestSame(t *testing.T) {
	full := func() play.Answer {
		return play.Answer{E: api.ErrSize, V: 1 << 63, B: []byte{1, 2, 3}, Stat: alloc.Stat{Free: 1, Slots: 2, Great: 3, Objects: 4, Bytes: 5}}
	}
	for k, change := range []func(a *play.Answer){
		func(a *play.Answer) { a.E++ },
		func(a *play.Answer) { a.E = api.OK },
		func(a *play.Answer) { a.V++ },
		func(a *play.Answer) { a.V ^= 1 << 63 },
		func(a *play.Answer) { a.B[0]++ },
		func(a *play.Answer) { a.B[2] ^= 128 },
		func(a *play.Answer) { a.B = a.B[:2] },
		func(a *play.Answer) { a.B = append(a.B, 0) },
		func(a *play.Answer) { a.B = nil },
		func(a *play.Answer) { a.Stat.Free++ },
		func(a *play.Answer) { a.Stat.Slots-- },
		func(a *play.Answer) { a.Stat.Great++ },
		func(a *play.Answer) { a.Stat.Objects = 0 },
		func(a *play.Answer) { a.Stat.Bytes = math.MinInt },
	} {
		for _, of := range []func() play.Answer{full, func() play.Answer { return play.Answer{E: 3, B: make([]byte, 3)} }} {
			a, b := of(), of()
			if !play.Same(a, b) || !play.Same(b, a) {
				t.Error("the same are not Same")
			}
			if change(&b); told(a) != told(b) && (play.Same(a, b) || play.Same(b, a)) {
				t.Errorf("change %d: %s and %s are Same", k, told(a), told(b))
			}
		}
	}
	if !play.Same(play.Answer{}, play.Answer{B: []byte{}}) || play.Same(play.Answer{}, play.Answer{B: []byte{0}}) {
		t.Error("nil and empty bytes")
	}
}

// P28.2: losses of power close the heap, take their picks, and come just then.
func TestCrash(t *testing.T) {
	for k, w := range stands(t) {
		b := w.Base()
		b.D.Store(512, bytes.Repeat([]byte{9}, 24)) // three words that do not last yet
		was := b.D.Image()
		is(t, "Crash", w.Do(crashes(1, 0)), play.Answer{})
		want := bytes.Clone(was)
		copy(want[512:], bytes.Repeat([]byte{9}, 8))
		copy(want[528:], bytes.Repeat([]byte{9}, 8))
		if !bytes.Equal(b.D.Image(), want) || !b.D.Down() || w.Heap().State() != api.ErrClosed {
			t.Errorf("way %d: down %v, State %d", k, b.D.Down(), w.Heap().State())
		}
		is(t, "Crash again", w.Do(crashes(1)), play.Answer{})
		is(t, "Close", w.Do(just(script.Close)), fails(api.ErrClosed))
		is(t, "Format without power", w.Do(just(script.Format)), fails(api.ErrDown))
		is(t, "Open without power", w.Do(opens(true)), fails(api.ErrDown))
		is(t, "Read without power", w.Do(reads(0, 0, 1)), fails(api.ErrClosed))
		is(t, "On", w.Do(just(script.On)), play.Answer{})
		if b.D.Down() || !bytes.Equal(b.D.Image(), want) {
			t.Errorf("way %d: behind On: down %v", k, b.D.Down())
		}
	}
}

// P28.2: a heap that is open while the power is off is closed by a Crash, too.
func TestCrashDown(t *testing.T) {
	w := stands(t)[4]
	good(t, w, allocs(9), arms(3))
	is(t, "Commit", w.Do(just(script.Commit)), fails(api.ErrDown))
	is(t, "Root of a heap that is down", w.Do(roots(3)), fails(api.ErrDown))
	is(t, "Check of a heap that is down", w.Do(just(script.Check)), fails(api.ErrDown))
	is(t, "Format of it", w.Do(just(script.Format)), fails(api.ErrOpen))
	is(t, "Crash", w.Do(crashes()), play.Answer{})
	is(t, "Root", w.Do(roots(3)), fails(api.ErrClosed))
	good(t, w, just(script.On), opens(false), just(script.Check))
	is(t, "Stat", good(t, w, just(script.Stat)), stat(alloc.Stat{Free: 3, Slots: 1, Great: 2, Objects: 2, Bytes: 305}))
}

// P28.2: Arm's acts and picks; what takes it back.
func TestArm(t *testing.T) {
	act := func(d *nvm.Device) api.Errno { return d.Do() }
	for n := range 6 {
		w := made(t, setup(2, 4))
		d := w.Base().D
		d.Store(0, bytes.Repeat([]byte{7}, 32))
		is(t, "Arm", w.Do(arms(n, 0, 1, 1)), play.Answer{})
		for k := 1; k < 9; k++ {
			want := api.OK
			if n > 0 && k >= n {
				want = api.ErrDown
			}
			if e := act(d); e != want {
				t.Errorf("armed for %d: act %d: error %d", n, k, e)
			}
		}
		want := make([]byte, 32)
		if n > 0 {
			copy(want[8:24], bytes.Repeat([]byte{7}, 16))
		}
		if !bytes.Equal(d.Image()[:32], want) {
			t.Errorf("armed for %d: %x lasts", n, d.Image()[:32])
		}
	}
	for k, back := range []script.Act{arms(0), arms(0, 1), just(script.On), arms(9)} {
		w := made(t, setup(2, 4), arms(2), back)
		for range 4 {
			if e := act(w.Base().D); e != api.OK {
				t.Errorf("taken back by %d: error %d", k, e)
			}
		}
	}
	w := made(t, setup(2, 4), arms(65535))
	for range 65534 {
		act(w.Base().D)
	}
	if w.Base().D.Down() || act(w.Base().D) != api.ErrDown {
		t.Error("armed for 65535 acts")
	}
}

// P28.2: what others write, up to the device's end, and beyond it; with the power off, too.
func TestTamper(t *testing.T) {
	for _, off := range []bool{false, true} {
		w := made(t, setup(2, 4))
		if off {
			good(t, w, crashes())
		}
		n := w.Base().D.Len()
		for _, c := range []struct {
			at, many int
			may      bool
		}{{0, 0, true}, {0, 1, true}, {5, 1024, true}, {n - 1, 1, true}, {n - 1024, 1024, true}, {n, 0, true}, {n, 1, false}, {n - 1, 2, false}, {n - 1023, 1024, false}, {n + 1, 0, false}, {65535, 0, false}, {65535, 1024, false}} {
			want, image := fails(api.ErrRange), w.Base().D.Image()
			b := text(uint64(c.at), c.many)
			if c.may {
				want = play.Answer{}
				copy(image[c.at:], b)
			}
			is(t, fmt.Sprintf("Tamper of %d at %d", c.many, c.at), w.Do(tampers(c.at, b)), want)
			if !bytes.Equal(w.Base().D.Image(), image) {
				t.Errorf("Tamper of %d at %d: other bytes are there", c.many, c.at)
			}
		}
		if len(w.Base().D.Acts()) != 0 {
			t.Error("Tamper is an act of the memory")
		}
	}
}
