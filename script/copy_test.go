package script_test

import (
	"bytes"
	"math"
	"testing"

	"garderobe/api"
	"garderobe/script"
)

// Rules 4 and 5: what is handed in is neither changed nor kept, and what is answered shares memory with nothing.
func TestOwn(t *testing.T) {
	l := every()
	b, _ := script.Encode(l)
	again, _ := script.Encode(l)
	want := bytes.Clone(b)
	if told(l) != told(every()) {
		t.Error("Encode changed the acts")
	}
	clear(b)
	_ = append(b[:len(b):cap(b)], 1)
	if !bytes.Equal(again, want) || told(l) != told(every()) {
		t.Error("what was answered is shared")
	}
	for _, x := range l {
		clear(x.B)
	}
	if !bytes.Equal(again, want) {
		t.Error("Encode kept the acts' bytes")
	}
	acts, _ := script.Parse(again)
	other, _ := script.Parse(again)
	if !bytes.Equal(again, want) {
		t.Error("Parse changed the bytes")
	}
	clear(again)
	if told(acts) != told(every()) {
		t.Error("Parse kept the bytes")
	}
	for k := range acts { // each act's bytes are written into, up to their capacity: no other act sees it
		x := acts[k].B[:cap(acts[k].B)]
		for i := range x {
			x[i] ^= 255
		}
		acts[k].B = append(acts[k].B, 1, 2, 3)
	}
	for k := range acts {
		acts[k].B = nil
	}
	if told(other) != told(every()) {
		t.Error("two answers share memory")
	}
}

// Rule 4: bytes of one act that are written into are seen in no other act of the same answer.
func TestApart(t *testing.T) {
	b, _ := script.Encode(every())
	l, _ := script.Parse(b)
	for k := range l {
		was := told(l[:k]) + "|" + told(l[k+1:])
		own := l[k].B[:cap(l[k].B)]
		for i := range own {
			own[i]++
		}
		_ = append(l[k].B, 9, 9, 9, 9, 9, 9, 9, 9, 9, 9, 9, 9, 9)
		if told(l[:k])+"|"+told(l[k+1:]) != was {
			t.Errorf("act %d shares its bytes with another one", k)
		}
	}
}

// Rule 4: Same, Like and May change nothing.
func TestUnchanged(t *testing.T) {
	a, b := every(), every()
	for k := range b {
		if b[k].Kind == script.Write {
			clear(b[k].B)
		}
	}
	was := told(b)
	if script.Same(a, b) || !script.Like(a, b) {
		t.Error("Same, Like")
	}
	for k := range a {
		if !script.May(a[k]) {
			t.Error("May")
		}
	}
	if told(a) != told(every()) || told(b) != was {
		t.Error("something was changed")
	}
}

// P1: all arguments are answered.
func TestAny(t *testing.T) {
	numbers := []int{math.MinInt, -1, 0, 1, 19, 20, 65535, 65536, math.MaxInt}
	for _, kind := range numbers {
		for _, n := range numbers {
			for _, b := range [][]byte{nil, {}, make([]byte, 1025), make([]byte, 70000)} {
				a := script.Act{Kind: kind, Yes: n == -1, Which: n, K: n, N: n, At: n, B: b}
				if script.May(a) != may(a) {
					t.Errorf("May of kind %d, %d, %d bytes", kind, n, len(b))
				}
				if out, e := script.Encode([]script.Act{a}); (e == api.OK) != may(a) || e != api.OK && out != nil {
					t.Errorf("Encode of kind %d, %d, %d bytes: error %d", kind, n, len(b), e)
				}
				if !script.Same([]script.Act{a}, []script.Act{a}) || !script.Like([]script.Act{a}, []script.Act{a}) {
					t.Errorf("Same of kind %d, %d, %d bytes", kind, n, len(b))
				}
			}
		}
	}
}
