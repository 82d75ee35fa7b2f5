package slot

import (
	"bytes"
	"testing"

	"garderobe/class"
)

// Chapter 18's Ways: a slot is a window into its page's bytes whose capacity ends with it, and so does an object's.
func TestWindows(t *testing.T) {
	for c := range class.Count {
		p := make([]byte, 256)
		l, rest := cut(p, c)
		for k, w := range l {
			if len(w) != class.Size(c)+8 || cap(w) != len(w) {
				t.Errorf("class %d, slot %d: %d bytes, capacity %d", c, k, len(w), cap(w))
			}
			w.name(uint64(k+1), k%2+1)
			if o := w.object(); len(o) != k%2+1 || cap(o) != len(o) {
				t.Errorf("class %d, slot %d: an object of %d bytes, capacity %d", c, k, len(o), cap(o))
			}
			_ = append(w, 0xEE)
			_ = append(w.object(), 0xEE)
			if at := k * len(w); p[at] != byte(k%2+1) || p[at+2] != byte(k+1) {
				t.Errorf("class %d, slot %d: what is written into the window is not in the page", c, k)
			}
		}
		if bytes.Contains(p, []byte{0xEE}) {
			t.Errorf("class %d: what was appended to a window is in the page", c)
		}
		if len(l) != class.Slots(c) || len(rest) != 256-class.Slots(c)*(class.Size(c)+8) {
			t.Errorf("class %d: %d slots, %d bytes behind them", c, len(l), len(rest))
		}
	}
}
