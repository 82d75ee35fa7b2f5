package twin

import (
	"bytes"
	"fmt"
	"slices"
	"testing"

	"garderobe/api"
	"garderobe/nvm"
	"garderobe/play"
	"garderobe/script"
)

// pending is a world in whose device four words were stored into that do not last yet.
func pending(t *testing.T) *play.World {
	t.Helper()
	w, e := play.New(play.Setup{G: api.Geo{Pages: 2, Tx: 4}, Key: make(api.Key, 16)})
	if e != api.OK {
		t.Fatal("New", e)
	}
	w.Run(script.Act{Kind: script.Format}, script.Act{Kind: script.Open, Yes: true})
	for k := range 4 {
		if e := w.Base().D.Store(256*k+8, bytes.Repeat([]byte{0xA0 + byte(k)}, 8)); e != api.OK {
			t.Fatal("Store", e)
		}
	}
	return w
}

// P30.1: the power goes with just these picks, if it is on: words last, or are what they were.
func TestSeenPicks(t *testing.T) {
	for picks, want := range map[string]string{"": "0000", "\x00": "0000", "\x01": "1111", "\x00\x01": "0101", "\x01\x00": "1010", "\x03\x02\x04": "1001", "\x01\x00\x00\x00\x01": "1000", "\x00\x00\x00\x01": "0001"} {
		w, was := pending(t), pending(t).Base().D.Image()
		v := seen(w, []byte(picks))
		for k, lasts := range want {
			now, old := v.Image[256*k+8:][:8], was[256*k+8:][:8]
			if lasts == '1' && !bytes.Equal(now, bytes.Repeat([]byte{0xA0 + byte(k)}, 8)) || lasts == '0' && !bytes.Equal(now, old) {
				t.Errorf("picks %x: word %d is %x", picks, k, now)
			}
		}
		if !w.Base().D.Down() || w.Base().D.Pending() != 0 {
			t.Errorf("picks %x: the power did not go", picks)
		}
		if !slices.Equal(v.Acts, w.Base().D.Acts()) || v.Acts[len(v.Acts)-1] != (nvm.Act{Kind: nvm.Store, At: 776, N: 8}) || v.Reg != w.Base().T.Read() {
			t.Errorf("picks %x: acts %v, %v", picks, v.Acts, v.Reg)
		}
	}
}

// P30.1: if the power is off, the picks play no part.
func TestSeenDown(t *testing.T) {
	for _, last := range [][]byte{nil, {1}, {0, 1}} {
		w := pending(t)
		w.Base().D.Crash(last...)
		want := w.Base().D.Image()
		for _, picks := range [][]byte{nil, {1}, {1, 0}} {
			if v := seen(w, picks); !bytes.Equal(v.Image, want) || !w.Base().D.Down() {
				t.Error("the power went twice: ", last, picks)
			}
		}
	}
}

// Rule 4: what is answered shares memory neither with the world nor with what else is answered.
func TestSeenOwn(t *testing.T) {
	w := pending(t)
	picks := []byte{1, 0, 1, 1}
	v := seen(w, picks[:2])
	want := fmt.Sprint(v)
	if !bytes.Equal(picks, []byte{1, 0, 1, 1}) {
		t.Error("the picks were changed")
	}
	spoil(v)
	v = seen(w, picks[:2])
	if fmt.Sprint(v) != want {
		t.Error("what was answered is the world's")
	}
	w.Run(script.Act{Kind: script.On}, script.Act{Kind: script.Tamper, B: []byte{9, 9}}, script.Act{Kind: script.Close}, script.Act{Kind: script.Format})
	if fmt.Sprint(v) != want {
		t.Error("what was answered is seen to change")
	}
}

// spoil writes into all of a view, up to its capacity.
func spoil(v View) {
	acts, image := v.Acts[:cap(v.Acts)], v.Image[:cap(v.Image)]
	for k := range acts {
		acts[k].At++
	}
	for k := range image {
		image[k] ^= 255
	}
}
