package meta_test

import (
	"bytes"
	"math/rand/v2"
	"slices"
	"testing"

	"garderobe/aes"
	"garderobe/api"
	"garderobe/batch"
	"garderobe/book"
	"garderobe/geom"
	"garderobe/gf"
	"garderobe/handle"
	"garderobe/mend"
	"garderobe/meta"
	"garderobe/nvm"
	"garderobe/pages"
	"garderobe/seal"
	"garderobe/sha"
	"garderobe/store"
	"garderobe/trust"
)

// made is a base behind a Format.
func made(t *testing.T, g api.Geo) store.Base {
	t.Helper()
	c, e := aes.New(gf.NewBox(), slices.Repeat([]byte{5}, 16))
	if e != api.OK {
		t.Fatal(e)
	}
	d := nvm.New(geom.Bytes(geom.Total(g)) / 64)
	b := store.Base{D: d, T: trust.New(d), S: seal.New(c), B: book.New(sha.Make()), G: g}
	if e := mend.Format(b); e != api.OK {
		t.Fatal("Format", e)
	}
	return b
}

// open is a batch over the store of a base.
func open(t *testing.T, b store.Base, most int) (*batch.Batch, *store.Store) {
	t.Helper()
	s, e := mend.Open(b, true)
	if e != api.OK {
		t.Fatal("Open", e)
	}
	return batch.New(s, most), s
}

// with is a batch in which a Meta stands, whether it may be or not, put in block by block.
func with(t *testing.T, b *batch.Batch, m meta.Meta) *batch.Batch {
	t.Helper()
	for k, data := range blocks(m) {
		put(t, b, k, data)
	}
	return b
}

func put(t *testing.T, b *batch.Batch, k int, data []byte) {
	t.Helper()
	if e := b.Put(k, data); e != api.OK {
		t.Fatalf("Put of %d: error %d", k, e)
	}
}

// spoil turns a bit of a sealed block.
func spoil(b store.Base, k int) {
	at := geom.Bytes(geom.SealedAt(b.G, k)) + 9
	x, _ := b.D.Load(at, 1)
	b.D.Tamper(at, []byte{x[0] ^ 64})
}

// fails fails unless a Load answers an error, and nothing beside it.
func fails(t *testing.T, what string, want api.Errno) func(m meta.Meta, e api.Errno) {
	t.Helper()
	return func(m meta.Meta, e api.Errno) {
		t.Helper()
		if e != want || !nothing(m) {
			t.Errorf("%s: %v, error %d; not %d", what, m, e, want)
		}
	}
}

// loads fails unless a batch has the Meta.
func loads(t *testing.T, what string, b *batch.Batch, g api.Geo, want meta.Meta) {
	t.Helper()
	if m, e := meta.Load(b, g); e != api.OK || !alike(m, want) {
		t.Errorf("%s: Load: %v, error %d; not %v", what, m, e, want)
	}
}

// The chapter's example, of all numbers of maps.
func TestExample(t *testing.T) {
	for _, n := range []int{1, 16, 17, 32, 33, 48, 49, 64} {
		g := api.Geo{Pages: n, Tx: 4}
		b, _ := open(t, made(t, g), 4)
		loads(t, "a new store", b, g, meta.New(g))
		if b.Len() != 0 {
			t.Error("Load put something", b.Keys())
		}
	}
}

// P22.3: what was saved is loaded, also behind a Commit, and by a store that is opened again; saved once more it puts
// nothing.
func TestSavedIsLoaded(t *testing.T) {
	for _, n := range []int{1, 16, 20, 64} {
		g := api.Geo{Pages: n, Tx: 6}
		base := made(t, g)
		b, _ := open(t, base, 6)
		for seed := range uint64(8) {
			m := some(n, seed)
			if seed == 7 {
				m = meta.New(g)
			}
			if e := meta.Save(b, g, m); e != api.OK {
				t.Fatal("Save", e)
			}
			loads(t, "saved", b, g, m)
			was := b.Keys()
			if e := meta.Save(b, g, m); e != api.OK || !slices.Equal(b.Keys(), was) {
				t.Error("saved once more", e, b.Keys(), was)
			}
			if seed%2 == 0 {
				continue
			}
			if e := b.Commit(); e != api.OK {
				t.Fatal("Commit", e)
			}
			loads(t, "committed", b, g, m)
			if e := meta.Save(b, g, m); e != api.OK || b.Len() != 0 {
				t.Error("committed, and saved once more", e, b.Keys())
			}
			b, _ = open(t, base, 6)
			loads(t, "opened again", b, g, m)
		}
	}
}

// P22.2: nothing is put but what another block stands for: of the batch, or of the store.
func TestSavePutsWhatHasChanged(t *testing.T) {
	g := api.Geo{Pages: 64, Tx: 10}
	b, _ := open(t, made(t, g), 10)
	m := of(64, 1)
	saved := func(what string, want ...int) {
		t.Helper()
		if e := meta.Save(b, g, m); e != api.OK || !slices.Equal(b.Keys(), want) {
			t.Errorf("%s: error %d, %v; not %v", what, e, b.Keys(), want)
		}
		loads(t, what, b, g, m)
	}
	saved("new", 0) // noughts are another block than that of a head whose Next is 1
	saved("new", 0)
	if e := b.Commit(); e != api.OK {
		t.Fatal(e)
	}
	saved("committed")
	m.Pages[47] = slots(7)
	saved("the third map", 3)
	m.Pages[63] = slots(7)
	saved("the last one, too", 3, 4)
	m.Pages[47] = pages.Page{}
	saved("as it was", 3, 4)
	if e := b.Commit(); e != api.OK {
		t.Fatal(e)
	}
	m.Pages[0] = slots(1)
	saved("the first map", 1)
	b.Abort()
	m.Pages[0] = pages.Page{}
	saved("aborted, and as it was")
	m.Roots.L[15] = 1
	saved("a root", 0)
	m.Roots.Next = 9
	m.Pages[16] = head(200, 8)
	saved("an object", 0, 2)
	put(t, b, 4, make([]byte, 256))
	put(t, b, 5, block(1))
	put(t, b, 1, make([]byte, 256))
	saved("a map that is another one in the batch", 0, 1, 2, 4, 5)
	if x, e := b.Get(5); e != api.OK || !bytes.Equal(x, block(1)) {
		t.Error("another block was changed", e)
	}
}

// block is one that is none of a Meta.
func block(seed uint64) []byte {
	r, b := rand.New(rand.NewPCG(seed, 7)), make([]byte, 256)
	for k := range b {
		b[k] = byte(r.Uint32())
	}
	return b
}

// P22.2: what Load says of blocks of all kinds, which stand in a batch or in the store: what Parse says.
func TestLoadIsParse(t *testing.T) {
	for _, n := range []int{1, 20, 64} {
		g := api.Geo{Pages: n, Tx: 6}
		base := made(t, g)
		for seed := range uint64(10) {
			b, _ := open(t, base, 6)
			m := some(n, seed)
			with(t, b, m)
			loads(t, "in a batch", b, g, m)
			for k := range 1 + maps(n) {
				o := b.Copy()
				put(t, o, k, block(seed))
				fails(t, "other bytes", api.ErrForm)(meta.Load(o, g))
			}
			put(t, b, 1+maps(n), block(seed)) // no block of the Meta, but the first page
			loads(t, "with others", b, g, m)
			if e := b.Commit(); e != api.OK {
				t.Fatal(e)
			}
			loads(t, "in the store", b, g, m)
			put(t, b, 0, make([]byte, 256))
			fail := slices.ContainsFunc(m.Pages, func(p pages.Page) bool { return p.Kind == 2 })
			if x, e := meta.Load(b, g); fail != (e == api.ErrForm) || !fail && (e != api.OK || x.Roots != handle.Roots{Next: 1}) {
				t.Errorf("a head of noughts: %v, error %d", x, e)
			}
		}
	}
}

// P22.2: a geometry, or a Meta, that may not be, ahead of all else; then that there is no batch.
func TestRefused(t *testing.T) {
	g := api.Geo{Pages: 4, Tx: 4}
	check := func(b *batch.Batch, behind api.Errno) {
		t.Helper()
		for _, g := range bads() {
			fails(t, "Load of a geometry that may not be", api.ErrArg)(meta.Load(b, g))
			for _, m := range []meta.Meta{{}, of(4, 1), of(max(0, min(g.Pages, 100)), 1)} {
				if e := meta.Save(b, g, m); e != api.ErrArg {
					t.Errorf("Save of %v: error %d", g, e)
				}
			}
		}
		for _, m := range []meta.Meta{{}, of(3, 1), of(5, 1), of(4, 0), of(4, maxSerial+2), of(4, 1, great(200, 1)), of(4, 9, []pages.Page{tail()}), of(4, 9, make([]pages.Page, 3), great(300, 1))} {
			if e := meta.Save(b, g, m); e != api.ErrArg {
				t.Errorf("Save of %v: error %d", m, e)
			}
		}
		fails(t, "Load", behind)(meta.Load(b, g))
		if e := meta.Save(b, g, of(4, 2)); e != behind {
			t.Errorf("Save: error %d, not %d", e, behind)
		}
	}
	check(nil, api.ErrNil)
	check(&batch.Batch{}, api.ErrNil)
	base := made(t, g)
	b, s := open(t, base, 0)
	spoil(base, 0)
	check(b, api.ErrTampered)
	b, s = open(t, made(t, g), 0)
	if e := meta.Save(b, api.Geo{}, of(4, 2)); e != api.ErrArg || b.Len() != 0 || s.State() != api.OK {
		t.Error("Save", e)
	}
}

// P22.2: Load gets the head and the maps, and nothing else, one behind the other up to the first error.
func TestLoadGets(t *testing.T) {
	g := api.Geo{Pages: 40, Tx: 8}
	for k := range geom.Sealed(g) {
		base := made(t, g)
		b, s := open(t, base, 8)
		spoil(base, k)
		if k > 3 {
			loads(t, "others wrote elsewhere", b, g, meta.New(g))
			continue
		}
		fails(t, "others wrote", api.ErrTampered)(meta.Load(b, g))
		if s.State() != api.ErrTampered {
			t.Error("State", s.State())
		}
		for _, o := range []int{0, 1, 2, 3} {
			base = made(t, g)
			b, s = open(t, base, 8)
			put(t, b, k, block(1)) // which is told only when all are got
			spoil(base, o)
			want := api.ErrTampered
			if o == k { // the batch has it: it is not read
				want = api.ErrForm
			}
			fails(t, "others wrote, and other bytes", want)(meta.Load(b, g))
			if got := s.State(); (got == api.ErrTampered) != (o != k) {
				t.Error("State", got)
			}
		}
	}
}

// P22.2: of a geometry that has more maps than the store has sealed blocks.
func TestBeyondTheStore(t *testing.T) {
	small, g := api.Geo{Pages: 1, Tx: 4}, api.Geo{Pages: 64, Tx: 4} // 3 sealed blocks; 5 blocks
	b, s := open(t, made(t, small), 9)
	fails(t, "no such block", api.ErrRange)(meta.Load(b, g))
	put(t, b, 0, block(1))
	put(t, b, 1, block(1))
	fails(t, "no such block, and other bytes", api.ErrRange)(meta.Load(b, g))
	b.Abort()
	m := of(64, 2, slices.Repeat([]pages.Page{slots(1)}, 64))
	if e := meta.Save(b, g, m); e != api.ErrRange || !slices.Equal(b.Keys(), []int{0, 1, 2}) || s.State() != api.OK {
		t.Error("Save", e, b.Keys())
	}
	put(t, b, 3, make([]byte, 256))
	put(t, b, 4, make([]byte, 256))
	if e := meta.Save(b, g, m); e != api.OK || b.Len() != 5 {
		t.Error("Save", e, b.Keys())
	}
	loads(t, "all in the batch", b, g, m)
}

// P22.2: Save ends with the first error, and what was put stays; it gets a block, and puts it, ahead of the next one.
func TestSaveIsBlockByBlock(t *testing.T) {
	g := api.Geo{Pages: 40, Tx: 8}
	m := of(40, 9, slices.Repeat([]pages.Page{slots(1)}, 40))
	want := blocks(m)
	stays := func(what string, b *batch.Batch, n int) {
		t.Helper()
		for k := range n {
			if x, e := b.Get(k); e != api.OK || !bytes.Equal(x, want[k]) {
				t.Errorf("%s: block %d: error %d", what, k, e)
			}
		}
		if b.Len() != n {
			t.Errorf("%s: %v, not %d", what, b.Keys(), n)
		}
	}
	for k := range 4 {
		base := made(t, g)
		b, _ := open(t, base, 8)
		spoil(base, k)
		if e := meta.Save(b, g, m); e != api.ErrTampered {
			t.Error("others wrote", e)
		}
		stays("others wrote", b, k)

		base = made(t, g)
		b, s := open(t, base, k)
		for o := k + 1; o < 4; o++ {
			spoil(base, o)
		}
		if e := meta.Save(b, g, m); e != api.ErrTxFull || s.State() != api.OK {
			t.Error("no room", e, s.State())
		}
		stays("no room", b, k)

		b, s = open(t, made(t, g), k+1)
		put(t, b, 20, block(1))
		if e := meta.Save(b, g, m); e != api.ErrTxFull || b.Len() != k+1 {
			t.Error("no room beside another block", e, b.Keys())
		}
	}
	b, _ := open(t, made(t, g), 4)
	if e := meta.Save(b, g, m); e != api.OK {
		t.Error("just room", e)
	}
	stays("just room", b, 4)
}

// P22.2: the power went.
func TestDown(t *testing.T) {
	g := api.Geo{Pages: 40, Tx: 8}
	base := made(t, g)
	b, _ := open(t, base, 8)
	m := some(40, 3)
	if e := meta.Save(b, g, m); e != api.OK {
		t.Fatal(e)
	}
	o := b.Copy()
	o.Abort()
	base.D.Crash()
	fails(t, "down", api.ErrDown)(meta.Load(o, g))
	if e := meta.Save(o, g, m); e != api.ErrDown || o.Len() != 0 {
		t.Error("Save", e)
	}
	loads(t, "all is in the batch", b, g, m)
	if e := meta.Save(b, g, m); e != api.OK { // nothing is read, and nothing is put
		t.Error("Save of what is in the batch", e)
	}
	if e := meta.Save(b, g, meta.New(g)); e != api.ErrDown {
		t.Error("Save of another one", e)
	}
}

// Rules 4 and 5: Save keeps nothing of the Meta, Load's answers share no memory; neither touches the device.
func TestBatchCopies(t *testing.T) {
	g := api.Geo{Pages: 40, Tx: 8}
	base := made(t, g)
	b, _ := open(t, base, 8)
	acts, image, reg := len(base.D.Acts()), base.D.Image(), base.T.Read()
	m := some(40, 4)
	want := clone(m)
	if e := meta.Save(b, g, m); e != api.OK {
		t.Fatal(e)
	}
	if !alike(m, want) {
		t.Error("Save changed what it was given")
	}
	clear(m.Pages)
	one, _ := meta.Load(b, g)
	other, _ := meta.Load(b, g)
	clear(one.Pages[:cap(one.Pages)])
	if !alike(other, want) {
		t.Error("two answers of Load share memory")
	}
	loads(t, "written into", b, g, want)
	if len(base.D.Acts()) != acts || !bytes.Equal(base.D.Image(), image) || base.T.Read() != reg {
		t.Error("something was done to the device")
	}
}
