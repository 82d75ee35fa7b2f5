package witness_test

import (
	"bytes"
	"fmt"
	"math"
	"testing"

	"garderobe/api"
	"garderobe/play"
	"garderobe/script"
	"garderobe/witness"
)

// none fails if something was found, or stands beside it.
func none(t *testing.T, what string, p witness.Pair, found bool) {
	t.Helper()
	if found || p.A != nil || p.B != nil {
		t.Errorf("%s: %q, %v", what, p, found)
	}
}

// The chapter's example.
func TestExample(t *testing.T) {
	p, found := witness.Among([]byte("a"), []byte("b"), []byte("a"))
	none(t, "a, b, a", p, found)
}

// P29.1: nothing shows in texts that are alike, nor in unlike ones, unless they have one sum.
func TestShows(t *testing.T) {
	l := [][]byte{nil, {}, {0}, {0, 0}, []byte("a"), []byte("b"), []byte("ab"), []byte("ba"), []byte("a\x00"), bytes.Repeat([]byte("a"), 55), bytes.Repeat([]byte("a"), 56),
		bytes.Repeat([]byte("a"), 64), append(bytes.Repeat([]byte("a"), 63), 0x80), make([]byte, 1<<20), make([]byte, 1<<20+1)}
	for _, a := range l {
		for _, b := range l {
			if (witness.Pair{A: a, B: bytes.Clone(b)}).Shows() {
				t.Errorf("texts of %d and %d bytes show", len(a), len(b))
			}
		}
	}
	if (witness.Pair{}).Shows() {
		t.Error("a pair with nothing in it shows")
	}
}

// P29.1: among texts without two unlike ones of one sum nothing is found, also where some stand there twice.
func TestAmong(t *testing.T) {
	long := text(5, 300000)
	other := bytes.Clone(long)
	other[299999] ^= 1
	for what, texts := range map[string][][]byte{
		"no text":                        nil,
		"an empty row":                   {},
		"one":                            {[]byte("a")},
		"a nil one":                      {nil},
		"nil and empty ones":             {nil, {}, nil, {}},
		"empty ones":                     {{}, {}, {0}, nil},
		"one twice":                      {[]byte("abc"), []byte("abc")},
		"some twice":                     {[]byte("abc"), []byte("abd"), []byte("abc"), nil, []byte("abd"), {}},
		"beginnings":                     {nil, []byte("a"), []byte("ab"), []byte("abc"), []byte("abcd")},
		"long ones":                      {long, other, long, other, long[1:], bytes.Clone(long)},
		"noughts":                        {make([]byte, 1), make([]byte, 63), make([]byte, 64), make([]byte, 65), make([]byte, 64)},
		"one and what it is padded with": {[]byte("a"), append(append([]byte{'a', 0x80}, make([]byte, 61)...), 8)},
	} {
		p, found := witness.Among(texts...)
		none(t, what, p, found)
	}
	var many [][]byte // more than a book keeps
	for k := range 40000 {
		many = append(many, fmt.Append(nil, k%30000))
	}
	p, found := witness.Among(many...)
	none(t, "many", p, found)
}

// Rule 4: texts that are looked through are not changed, neither in them nor behind them.
func TestTextsAreNotChanged(t *testing.T) {
	back := text(6, 90)
	texts := [][]byte{back[:30], back[10:50], back[50:50], back[:30:30], nil}
	witness.Among(texts...)
	(witness.Pair{A: back[:10], B: back[10:20]}).Shows()
	if !bytes.Equal(back, text(6, 90)) || len(texts[1]) != 40 || texts[4] != nil {
		t.Error("a text was changed")
	}
}

// P29.2: layer 28's error of New, and nothing beside it, whatever the acts are.
func TestSetups(t *testing.T) {
	good := setup(5, 6)
	for _, s := range []play.Setup{
		{}, {G: good.G}, {Key: good.Key}, {G: good.G, Key: good.Key[:15]}, {G: good.G, Key: good.Key[:31]}, {G: good.G, Key: text(1, 33)}, {G: good.G, Key: text(1, 16)},
		{G: api.Geo{Pages: 0, Tx: 6}, Key: good.Key}, {G: api.Geo{Pages: 65, Tx: 6}, Key: good.Key}, {G: api.Geo{Pages: 64, Tx: 24}, Key: good.Key}, {G: api.Geo{Pages: 1, Tx: 4}, Key: good.Key},
		{G: api.Geo{Pages: 5, Tx: 3}, Key: good.Key}, {G: api.Geo{Pages: 5, Tx: 25}, Key: good.Key}, {G: api.Geo{Pages: math.MinInt, Tx: math.MaxInt}, Key: good.Key},
		{G: good.G, Key: good.Key, Count: api.MaxCount}, {G: good.G, Key: good.Key, Count: 1}, good,
	} {
		_, want := play.New(s)
		for n, l := range [][]script.Act{nil, {}, {just(script.Format)}, {just(-1), just(script.Format), opens(true)}, standing()} {
			p, found, e := witness.Find(s, l...)
			none(t, fmt.Sprintf("%+v, script %d", s, n), p, found)
			if e != want {
				t.Errorf("%+v, script %d: error %d, not %d", s, n, e, want)
			}
		}
	}
	if _, _, e := witness.Find(play.Setup{}, standing()...); e != api.ErrArg {
		t.Error("no setup: error", e)
	}
}

// P29.2: acts that may not be are refused by the world, and end nothing.
func TestActsThatMayNotBe(t *testing.T) {
	l := []script.Act{just(-1), just(20), just(math.MaxInt), {Kind: script.Close, N: 1}, {Kind: script.Alloc, N: -1}, {Kind: script.Alloc, N: 65536}, {Kind: script.Write, Which: -1}, {Kind: script.Write, B: make([]byte, 1025)},
		{Kind: script.Read, At: math.MinInt, N: math.MinInt}, {Kind: script.Tamper, At: -1, B: []byte{1}}, {Kind: script.Arm, N: -1}, {Kind: math.MinInt, Yes: true, B: []byte{1}}}
	for n := range len(l) + 1 {
		same(t, fmt.Sprint(n, " acts that may not be"), setup(5, 6), append(append(standing(), l[:n]...), standing()...))
		same(t, fmt.Sprint(n, " of them ahead"), setup(5, 6), append(append([]script.Act{}, l[:n]...), standing()...))
	}
}

// P29.2: what is found is what the book of a world in which the same acts were run tells, over scripts with losses of
// power and with others' writes.
func TestFind(t *testing.T) {
	same(t, "no acts", setup(5, 6), nil)
	for seed := range uint64(60) {
		t.Run(fmt.Sprint(seed), func(t *testing.T) {
			t.Parallel()
			p := written(t, seed, seed%2 > 0, seed%3 > 0)
			same(t, "a script", p.s, p.l)
			for _, n := range []int{1, len(p.l) / 3, len(p.l) / 2} {
				same(t, fmt.Sprint(n, " acts of it"), p.s, p.l[:n])
			}
		})
	}
}

// same fails unless Find tells what the book of such a world does.
func same(t *testing.T, what string, s play.Setup, l []script.Act) {
	t.Helper()
	w, e := play.New(s)
	if e != api.OK {
		t.Fatal(what, "New", e)
	}
	w.Run(l...)
	a, b, there := w.Base().B.Clash()
	p, found, e := witness.Find(s, l...)
	if e != api.OK || found != there || !bytes.Equal(p.A, a) || !bytes.Equal(p.B, b) || found != p.Shows() {
		t.Errorf("%s: %q, %v, error %d; the book tells %q and %q, %v", what, p, found, e, a, b, there)
	}
}

// Rules 4 to 6: what is handed in is neither changed nor kept; the same is answered again.
func TestFindOwn(t *testing.T) {
	s, l := setup(5, 6), standing()
	for range 2 {
		p, found, e := witness.Find(s, l...)
		none(t, "a script", p, found)
		if e != api.OK || !script.Same(l, standing()) || !bytes.Equal(s.Key, setup(5, 6).Key) || s.G != setup(5, 6).G {
			t.Fatal("error", e, "or something was changed")
		}
	}
	back := standing() // acts behind those that are handed in
	witness.Find(s, back[:3]...)
	if !script.Same(back, standing()) {
		t.Error("acts behind a script were changed")
	}
}
