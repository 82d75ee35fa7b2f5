package witness

import (
	"bytes"
	"fmt"
	"slices"
	"testing"

	"garderobe/api"
	"garderobe/play"
	"garderobe/script"
)

// narrow sums a text to its last byte: only so two unlike texts of one sum can be had.
func narrow(parts ...[]byte) api.Digest {
	all := bytes.Join(parts, nil)
	if len(all) == 0 {
		return api.Digest{}
	}
	return api.Digest{all[len(all)-1]}
}

// clashes tells by the words which text is the first one that is unlike one ahead of it, and has its sum, and the first such one.
func clashes(texts [][]byte) (first, second []byte, there bool) {
	for k, t := range texts {
		for _, one := range texts[:k] {
			if string(one) != string(t) && narrow(one) == narrow(t) {
				return one, t, true
			}
		}
	}
	return nil, nil, false
}

// rows are all rows of so many texts.
func rows(n int, texts [][]byte) [][][]byte {
	if n == 0 {
		return [][][]byte{nil}
	}
	var out [][][]byte
	for _, row := range rows(n-1, texts) {
		for _, t := range texts {
			out = append(out, append(slices.Clone(row), t))
		}
	}
	return out
}

// P29.1, P29.3: of all rows of up to five texts, of which some have one sum, nil and empty ones among them: what is found
// is what the words say, and shows.
func TestAmongOfOneSum(t *testing.T) {
	texts := [][]byte{nil, {}, {0}, []byte("a"), []byte("xa"), []byte("ya"), []byte("b"), []byte("xb")}
	found := 0
	for n := range 6 {
		for _, row := range rows(n, texts) {
			p, ok := among(narrow, row)
			a, b, there := clashes(row)
			if ok != there || !bytes.Equal(p.A, a) || !bytes.Equal(p.B, b) {
				t.Fatalf("among %q: %q, %v; not %q and %q, %v", row, p, ok, a, b, there)
			}
			if ok != p.shows(narrow) {
				t.Fatalf("among %q: %q, which shows: %v", row, p, !ok)
			}
			if ok {
				found++
			}
		}
	}
	if found < 1000 {
		t.Error("found", found)
	}
}

// P29.1: the first one in order is told, not the one that is met by the text ahead of all.
func TestAmongInOrder(t *testing.T) {
	for _, c := range []struct{ texts, a, b string }{
		{"1x 2y 3z 2y 4y 1x 5x", "2y", "4y"},
		{"1x 1x 1x 2x 1x 3x", "1x", "2x"},
		{"1x 2y 3y 4x", "2y", "3y"},
		{"1x 2y 4x 3y", "1x", "4x"},
		{"2x 1x", "2x", "1x"},
		{"x 1x", "x", "1x"},
	} {
		var texts [][]byte
		for _, s := range bytes.Fields([]byte(c.texts)) {
			texts = append(texts, s)
		}
		if p, ok := among(narrow, texts); !ok || string(p.A) != c.a || string(p.B) != c.b {
			t.Errorf("among %s: %q, %v", c.texts, p, ok)
		}
	}
}

// P29.1: a pair shows if its texts are unlike, and have one sum, and only then.
func TestShowsOneSum(t *testing.T) {
	for _, c := range []struct {
		a, b []byte
		want bool
	}{
		{nil, nil, false}, {nil, []byte{}, false}, {[]byte{}, nil, false}, {nil, []byte{0}, true}, {[]byte{0}, []byte{}, true},
		{[]byte("x"), []byte("x"), false}, {[]byte("x"), []byte("1x"), true}, {[]byte("1x"), []byte("x"), true}, {[]byte("1x"), []byte("2x"), true},
		{[]byte("x1"), []byte("x2"), false}, {[]byte("x"), nil, false}, {nil, []byte("x"), false},
	} {
		if (Pair{c.a, c.b}).shows(narrow) != c.want {
			t.Errorf("%q and %q: not %v", c.a, c.b, c.want)
		}
	}
}

// Rules 4 and 5: the texts are not changed, and what is found shares memory with none of them.
func TestFoundIsACopy(t *testing.T) {
	texts := [][]byte{[]byte("1x____")[:2], []byte("2y____")[:2], []byte("3y____")[:2]}
	p, ok := among(narrow, texts)
	if !ok || fmt.Sprintf("%q", texts) != `["1x" "2y" "3y"]` {
		t.Fatalf("%v, %q", ok, texts)
	}
	for _, b := range [][]byte{p.A, p.B} {
		_ = append(b, "more"...)
		clear(b[:cap(b)])
	}
	for k, want := range []string{"1x____", "2y____", "3y____"} {
		if string(texts[k][:6]) != want {
			t.Errorf("text %d is %q", k, texts[k][:6])
		}
	}
	p, _ = among(narrow, texts)
	clear(texts[1])
	clear(texts[2])
	if string(p.A) != "2y" || string(p.B) != "3y" {
		t.Errorf("a text was kept: %q", p)
	}
	_ = append(p.A, "more"...)
	if string(p.B) != "3y" {
		t.Errorf("both texts share memory: %q", p)
	}
}

// P29.2: what a book tells is told as it is: the one that was kept, the other one, and whether there are such.
func TestTold(t *testing.T) {
	if p, ok := told(func() (a, b []byte, found bool) { return []byte("1x"), []byte("2x"), true }); !ok || string(p.A) != "1x" || string(p.B) != "2x" {
		t.Errorf("%q, %v", p, ok)
	}
	if p, ok := told(func() (a, b []byte, found bool) { return nil, nil, false }); ok || p.A != nil || p.B != nil {
		t.Errorf("%q, %v", p, ok)
	}
}

// P29.2: the world is one of the setup in which all acts were run, in order, those that are refused, too.
func TestBehind(t *testing.T) {
	s := play.Setup{G: api.Geo{Pages: 5, Tx: 6}, Key: []byte("sixteen bytes ..")[:16], Count: 40}
	l := []script.Act{{Kind: script.Format}, {Kind: 77}, {Kind: script.Open, Yes: true}, {Kind: script.Begin}, {Kind: script.Alloc, N: 300}, {Kind: script.Write, B: []byte("here")},
		{Kind: script.Alloc, N: 5000}, {Kind: script.Commit}, {Kind: script.Begin}, {Kind: script.Alloc, N: 9}, {Kind: script.Arm, N: 6, B: []byte{1, 0}}, {Kind: script.Commit}, {Kind: script.Crash},
		{Kind: script.On}, {Kind: script.Open, Yes: true}, {Kind: script.Tamper, At: 256 * 5, B: []byte{1}}, {Kind: script.Stat}}
	for n := range len(l) + 1 {
		w, e := behind(s, l[:n])
		other, _ := play.New(s)
		other.Run(l[:n]...)
		if e != api.OK {
			t.Fatal(n, "acts: error", e)
		}
		a, b := w.Base(), other.Base()
		if a.G != b.G || a.T.Read() != b.T.Read() || a.B.Len() != b.B.Len() || w.Heap().State() != other.Heap().State() {
			t.Errorf("behind %d acts: %v, %d texts", n, a.T.Read(), a.B.Len())
		}
		if !bytes.Equal(a.D.Image(), b.D.Image()) || !slices.Equal(a.D.Acts(), b.D.Acts()) || !slices.Equal(a.S.Used(), b.S.Used()) {
			t.Errorf("behind %d acts the devices are unlike", n)
		}
	}
	if w, e := behind(play.Setup{}, l); w != nil || e != api.ErrArg {
		t.Error("a setup that may not be:", w, e)
	}
}
