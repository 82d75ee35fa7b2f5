package slot_test

import (
	"bytes"
	"slices"
	"testing"

	"garderobe/api"
	"garderobe/slot"
)

// changes are calls of slot 1, and of the first free slot, of a page.
func changes() map[string]func(p []byte, c int) answer {
	return map[string]func(p []byte, c int) answer{
		"Take":          func(p []byte, c int) answer { return take(p, c, 5, 4) },
		"Free":          func(p []byte, c int) answer { return free(p, c, 1) },
		"Resize":        func(p []byte, c int) answer { return resize(p, c, 1, 2) },
		"Resize longer": func(p []byte, c int) answer { return resize(p, c, 1, 8) },
		"Resize none":   func(p []byte, c int) answer { return resize(p, c, 1, 6) },
		"Write":         func(p []byte, c int) answer { return write(p, c, 1, 3, []byte{7, 8}) },
		"Write nothing": func(p []byte, c int) answer { return write(p, c, 1, 3, nil) },
		"Get":           func(p []byte, c int) answer { return get(p, c, 1) },
	}
}

// two is a page whose slot 1 has an object of 6 bytes, and whose slot 0 is free.
func two(c int) []byte { return page(c, thing{}, thing{3, []byte{9, 8, 7, 6, 5, 4}}) }

// Rule 4: a page that is handed in is left as it is, so is what stands behind its end.
func TestPageIsLeft(t *testing.T) {
	for c := range sizes {
		for what, call := range changes() {
			room := append(two(c), filled(200, 3)...)
			was := slices.Clone(room)
			if a := call(room[:256], c); a.e != api.OK {
				t.Fatalf("%s, class %d: error %d", what, c, a.e)
			}
			if !bytes.Equal(room, was) {
				t.Errorf("%s, class %d: what was handed in was changed", what, c)
			}
		}
	}
}

// Rules 4 and 5: an answer shares no memory with what was handed in, nor with another answer, up to its capacity.
func TestAnswersAreCopies(t *testing.T) {
	for c := range sizes {
		for what, call := range changes() {
			p := two(c)
			a, b := call(p, c), call(p, c)
			want := slices.Clone(b.p)
			for k := range p {
				p[k] ^= 0xFF
			}
			for k := range a.p[:cap(a.p)] {
				a.p[:cap(a.p)][k] = 0xEE
			}
			if !bytes.Equal(b.p, want) {
				t.Errorf("%s, class %d: an answer changed with what was handed in, or with another answer", what, c)
			}
			if again := call(two(c), c); !bytes.Equal(again.p, want) || again.e != api.OK {
				t.Errorf("%s, class %d: answers otherwise the second time", what, c)
			}
			q := two(c)
			a = call(q, c)
			clear(a.p[:cap(a.p)])
			if !bytes.Equal(q, two(c)) {
				t.Errorf("%s, class %d: what is written into an answer is seen in what was handed in", what, c)
			}
		}
	}
}

// Rules 4 and 5: what Write is given is neither changed nor kept.
func TestWrittenIsNotKept(t *testing.T) {
	for c := range sizes {
		room := []byte{1, 2, 3, 4, 5, 6}
		b := room[1:4]
		q, e := slot.Write(two(c), c, 1, 2, b)
		want := page(c, thing{}, thing{3, []byte{9, 8, 2, 3, 4, 4}})
		if !bytes.Equal(room, []byte{1, 2, 3, 4, 5, 6}) {
			t.Errorf("class %d: what was handed in was changed", c)
		}
		clear(room)
		ok(t, "Write", c, q, e, want)
	}
}

// Rule 4: bytes that are appended to an object, or to a page, are seen nowhere else.
func TestAppended(t *testing.T) {
	for c := range sizes {
		p := full(c)
		for k := range many(c) {
			_, b, _ := slot.Get(p, c, k)
			_ = append(b, filled(300, k)...)
			_ = append(b, 1)
		}
		for k := range many(c) {
			want, _ := things(full(c), c)
			if _, b, e := slot.Get(p, c, k); e != api.OK || !bytes.Equal(b, want[k].b) {
				t.Errorf("class %d, slot %d: % x, error %d", c, k, b, e)
			}
		}
	}
}
