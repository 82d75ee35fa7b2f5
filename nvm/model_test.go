package nvm_test

import (
	"bytes"
	"math/rand"
	"slices"
	"testing"

	"garderobe/api"
	"garderobe/nvm"
)

// model is a device by the words: bytes one at a time, and the numbers of the words that are pending and marked.
type model struct {
	lasts, now      []byte
	pending, marked map[int]bool
	off             bool
	acts            []nvm.Act
	left            int // acts till the power goes; 0: it doesn't
	picks           []byte
}

func modelOf(lines int) *model {
	return &model{lasts: make([]byte, 64*lines), now: make([]byte, 64*lines), pending: map[int]bool{}, marked: map[int]bool{}}
}

func (m *model) refuses(at, n int) api.Errno {
	switch {
	case m.off:
		return api.ErrDown
	case at < 0 || n < 0 || at > len(m.now) || n > len(m.now) || at+n > len(m.now):
		return api.ErrRange
	}
	return api.OK
}

// act is whether an act happens.
func (m *model) act(a nvm.Act) api.Errno {
	if e := m.refuses(a.At, a.N); e != api.OK {
		return e
	}
	if m.left == 1 {
		m.crash(m.picks)
		return api.ErrDown
	}
	if m.left > 1 {
		m.left--
	}
	if len(m.acts) < 16384 {
		m.acts = append(m.acts, a)
	}
	return api.OK
}

func (m *model) store(at int, b []byte) api.Errno {
	e := m.act(nvm.Act{Kind: 1, At: at, N: len(b)})
	if e == api.OK {
		for k, c := range b {
			m.now[at+k] = c
			m.pending[(at+k)/8] = true
			delete(m.marked, (at+k)/8)
		}
	}
	return e
}

func (m *model) load(at, n int) ([]byte, api.Errno) {
	if e := m.refuses(at, n); e != api.OK {
		return nil, e
	}
	return m.now[at : at+n], api.OK
}

func (m *model) flush(at, n int) api.Errno {
	e := m.act(nvm.Act{Kind: 2, At: at, N: n})
	if e == api.OK {
		for k := at; k < at+n; k++ {
			for w := range m.pending {
				if w/8 == k/64 {
					m.marked[w] = true
				}
			}
		}
	}
	return e
}

func (m *model) fence() api.Errno {
	e := m.act(nvm.Act{Kind: 3})
	if e == api.OK {
		for w := range m.marked {
			copy(m.lasts[8*w:8*w+8], m.now[8*w:])
			delete(m.pending, w)
		}
		clear(m.marked)
	}
	return e
}

func (m *model) crash(picks []byte) {
	if m.off {
		return
	}
	j := 0
	for w := range len(m.now) / 8 {
		if !m.pending[w] {
			continue
		}
		if len(picks) > 0 && picks[j%len(picks)]%2 != 0 {
			copy(m.lasts[8*w:8*w+8], m.now[8*w:])
		}
		j++
	}
	copy(m.now, m.lasts)
	clear(m.pending)
	clear(m.marked)
	m.off, m.left = true, 0
}

func (m *model) tamper(at int, b []byte) bool {
	if at < 0 || at > len(m.now) || len(b) > len(m.now)-at {
		return false
	}
	copy(m.now[at:], b)
	copy(m.lasts[at:], b)
	return true
}

// like fails if a device doesn't tell what the model does.
func (m *model) like(t *testing.T, d *nvm.Device, what any) {
	t.Helper()
	if d.Down() != m.off || d.Pending() != len(m.pending) || d.Len() != len(m.now) {
		t.Fatalf("%v: down %v, %d pending, %d bytes; not %v, %d, %d", what, d.Down(), d.Pending(), d.Len(), m.off, len(m.pending), len(m.now))
	}
	if got := d.Image(); !bytes.Equal(got, m.lasts) {
		t.Fatalf("%v: what lasts is\n% x, not\n% x", what, got, m.lasts)
	}
	got, e := d.Load(0, d.Len())
	if want, we := m.load(0, len(m.now)); e != we || !bytes.Equal(got, want) {
		t.Fatalf("%v: %d, what is read is\n% x, not\n% x", what, e, got, want)
	}
	if !slices.Equal(d.Acts(), m.acts) {
		t.Fatalf("%v: the acts are %v, not %v", what, d.Acts(), m.acts)
	}
}

// both do one thing, of chance, to a device and to the model.
func both(t *testing.T, r *rand.Rand, d *nvm.Device, m *model) {
	t.Helper()
	at, n := r.Intn(d.Len()+12)-4, r.Intn(40)
	if r.Intn(4) == 0 {
		n = r.Intn(d.Len()+12) - 4
	}
	b := make([]byte, max(n, 0))
	r.Read(b)
	picks := make([]byte, r.Intn(5))
	r.Read(picks)
	switch r.Intn(24) {
	case 0, 1, 2, 3, 4, 5:
		if got, want := d.Store(at, b), m.store(at, b); got != want {
			t.Fatalf("Store(%d, %d bytes): %d, not %d", at, len(b), got, want)
		}
	case 6, 7, 8, 9:
		if got, want := d.Flush(at, n), m.flush(at, n); got != want {
			t.Fatalf("Flush(%d, %d): %d, not %d", at, n, got, want)
		}
	case 10, 11, 12:
		if got, want := d.Fence(), m.fence(); got != want {
			t.Fatalf("Fence: %d, not %d", got, want)
		}
	case 13:
		if got, want := d.Do(), m.act(nvm.Act{Kind: 4}); got != want {
			t.Fatalf("Do: %d, not %d", got, want)
		}
	case 14, 15, 16:
		got, e := d.Load(at, n)
		if want, we := m.load(at, n); e != we || !bytes.Equal(got, want) {
			t.Fatalf("Load(%d, %d): % x, %d; not % x, %d", at, n, got, e, want, we)
		}
	case 17, 18:
		if got, want := d.Tamper(at, b), m.tamper(at, b); got != want {
			t.Fatalf("Tamper(%d, %d bytes): %v", at, len(b), got)
		}
	case 19:
		d.Crash(picks...)
		m.crash(picks)
	case 20:
		acts := r.Intn(12) - 2
		d.Arm(acts, picks...)
		m.left, m.picks = max(acts, 0), bytes.Clone(picks)
		clear(picks)
	case 21, 22:
		d.On()
		m.off, m.left = false, 0
	}
}

// P8.1 to P8.3: a device and the model tell the same, whatever is done.
func TestDeviceAgainstTheModel(t *testing.T) {
	for seed := range 150 {
		r := rand.New(rand.NewSource(int64(seed)))
		lines := r.Intn(5)
		d, m := nvm.New(lines), modelOf(lines)
		for step := range 300 {
			both(t, r, d, m)
			m.like(t, d, [2]int{seed, step})
		}
	}
}

// P8.4, P8.5: of what was stored, each word is what it was or what was stored last behind a loss of power, and what
// was flushed and fenced, and not stored into again, lasts.
func TestWhatLastsBehindALossOfPower(t *testing.T) {
	for seed := range 300 {
		r := rand.New(rand.NewSource(int64(seed)))
		d := nvm.New(4)
		for range 1 + r.Intn(3) {
			some(t, r, d)
			check(t, r, d)
		}
	}
}

// some stores, flushes and fences some bytes, of chance.
func some(t *testing.T, r *rand.Rand, d *nvm.Device) {
	t.Helper()
	for range r.Intn(30) {
		at := r.Intn(d.Len())
		b := make([]byte, r.Intn(d.Len()-at+1))
		r.Read(b)
		e := api.OK
		switch r.Intn(3) {
		case 0:
			e = d.Store(at, b)
		case 1:
			e = d.Flush(at, len(b))
		case 2:
			e = d.Fence()
		}
		if e != api.OK {
			t.Fatal(e)
		}
	}
}

// check makes some words last, stores into a few of them again, and holds what is there behind a loss of power
// against what was there and what was stored.
func check(t *testing.T, r *rand.Rand, d *nvm.Device) {
	t.Helper()
	b := make([]byte, 8*(1+r.Intn(16)))
	r.Read(b)
	at := 8 * r.Intn((d.Len()-len(b))/8+1)
	d.Store(at, b)
	d.Flush(at, len(b))
	d.Fence()
	if got := d.Image()[at : at+len(b)]; !bytes.Equal(got, b) {
		t.Fatalf("what was stored, flushed and fenced is % x, not % x", got, b)
	}
	again := at/8 + r.Intn(len(b)/8)
	d.Store(8*again+r.Intn(8), []byte{byte(r.Int())})
	d.Flush(0, d.Len())
	was := d.Image()
	is, _ := d.Load(0, d.Len())
	picks := make([]byte, r.Intn(7))
	r.Read(picks)
	d.Crash(picks...)
	for w := range d.Len() / 8 {
		got := d.Image()[8*w : 8*w+8]
		old, young := bytes.Equal(got, was[8*w:8*w+8]), bytes.Equal(got, is[8*w:8*w+8])
		if !old && !young {
			t.Fatalf("word %d is % x", w, got)
		}
		if mine := at <= 8*w && 8*w < at+len(b); mine && w != again && !bytes.Equal(got, b[8*w-at:8*w-at+8]) {
			t.Fatalf("word %d was to last", w)
		}
	}
	d.On()
	if now, e := d.Load(0, d.Len()); e != api.OK || !bytes.Equal(now, d.Image()) || d.Pending() != 0 {
		t.Fatal("behind a loss of power", e, d.Pending())
	}
}
