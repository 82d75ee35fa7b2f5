package twin_test

import (
	"bytes"
	"fmt"
	"testing"

	"garderobe/script"
	"garderobe/twin"
)

// every is an act of each kind, and of what is none, with all that an act has, whether it may be or not.
func every() []script.Act {
	var l []script.Act
	for kind := -1; kind < 22; kind++ {
		for _, n := range []int{0, 1, 7, 1024, 2000} {
			l = append(l, script.Act{Kind: kind, Yes: n%2 > 0, Which: 3, K: 4, N: -5, At: 6, B: bytes.Repeat([]byte{255, 1}, n)[:n]})
		}
		l = append(l, script.Act{Kind: kind})
	}
	return l
}

// spelt is all of some acts as a text.
func spelt(l []script.Act) string { return fmt.Sprintf("%+v", l) }

// P30.2: all is as it was, but that of the kind Write B is as many noughts.
func TestBlind(t *testing.T) {
	for n, l := range [][]script.Act{nil, {}, every(), {writes(0, 0)}, {writes(1, 2, 3)}, {writes(1, 2, make([]byte, 1024)...), tampers(0, 5), writes(1, 2, 3, 4), arms(4, 5)}, every()[:1]} {
		var want []script.Act
		for _, a := range l {
			if a.Kind == 9 {
				a.B = make([]byte, len(a.B))
			}
			want = append(want, a)
		}
		got := twin.Blind(l)
		if !script.Same(got, want) {
			t.Errorf("script %d: %s, not %s", n, spelt(got), spelt(want))
		}
		if !script.Like(l, got) || !script.Same(twin.Blind(got), got) {
			t.Errorf("script %d: it is not like it was, or not blind: %s", n, spelt(got))
		}
	}
	if l := twin.Blind(nil); len(l) != 0 {
		t.Error("of no acts", l)
	}
}

// Rules 4 and 5: acts are neither changed nor kept, and what is answered shares memory with nothing.
func TestBlindOwn(t *testing.T) {
	back := []byte{1, 2, 3, 4, 5, 6, 7, 8}
	shared := func() []script.Act {
		return []script.Act{writes(0, 0, back[:3]...), writes(0, 0, back[:3]...), tampers(0, back[2:5]...), tampers(1, back[2:5]...), crashes(back[:0]...), arms(5, back...)}
	}
	l := shared()
	was := spelt(l)
	got, again := twin.Blind(l), twin.Blind(l)
	want := spelt(again)
	if spelt(l) != was || !bytes.Equal(back, []byte{1, 2, 3, 4, 5, 6, 7, 8}) {
		t.Fatal("the acts were changed:", spelt(l))
	}
	for k := range got {
		rest := spelt(got[:k]) + spelt(got[k+1:])
		own := got[k].B[:cap(got[k].B)]
		for i := range own {
			own[i] ^= 255
		}
		_ = append(got[k].B, 9, 9, 9, 9, 9, 9, 9, 9)
		if spelt(got[:k])+spelt(got[k+1:]) != rest {
			t.Errorf("act %d shares its bytes with another one", k)
		}
	}
	for k := range got {
		got[k] = script.Act{}
	}
	_ = append(got, script.Act{Kind: 7})
	if spelt(l) != was || spelt(again) != want || !bytes.Equal(back, []byte{1, 2, 3, 4, 5, 6, 7, 8}) {
		t.Error("what was answered is shared")
	}
	for k := range back {
		back[k] = 99
	}
	for k := range l {
		l[k] = script.Act{}
	}
	if spelt(again) != want {
		t.Error("the acts were kept")
	}
	part := shared()
	twin.Blind(part[:2])
	if spelt(part[2:]) != spelt(shared()[2:]) {
		t.Error("acts behind a script were changed")
	}
}

// Rules 4 to 6: Look changes nothing that is handed in, keeps nothing of it, and answers the same again.
func TestLookOwn(t *testing.T) {
	acts := func() []script.Act {
		return begun(allocs(300), writes(0, 2, 1, 2, 3), just(script.Commit), tampers(9, 7, 7), arms(3, 1, 0), just(script.Close), opens(true))
	}
	s, l, picks := setup(5, 8), acts(), []byte{1, 0, 1}
	v := look(t, s, l, picks...)
	want := told(v)
	if !script.Same(l, acts()) || !bytes.Equal(picks, []byte{1, 0, 1}) || !bytes.Equal(s.Key, setup(5, 8).Key) {
		t.Fatal("something was changed")
	}
	clear(v.Image[:cap(v.Image)])
	clear(v.Acts[:cap(v.Acts)])
	v = look(t, s, l, picks...)
	if told(v) != want {
		t.Error("it answers otherwise")
	}
	clear(l)
	clear(picks)
	clear(s.Key)
	if told(v) != want || told(look(t, setup(5, 8), acts(), 1, 0, 1)) != want {
		t.Error("something was kept")
	}
	whole := acts()
	look(t, setup(5, 8), whole[:4])
	if !script.Same(whole, acts()) {
		t.Error("acts behind a script were changed")
	}
}
