package trust_test

import (
	"bytes"
	"math"
	"math/rand"
	"slices"
	"testing"

	"garderobe/api"
	"garderobe/nvm"
	"garderobe/trust"
)

// reg is a register's count and root, told by a byte: its first and its last one are unlike.
func reg(count uint64, root byte) api.Reg {
	return api.Reg{Count: count, Root: api.Digest{0: root, 15: 7, 31: ^root}}
}

// holds fails if a register doesn't hold r.
func holds(t *testing.T, x *trust.Trust, r api.Reg) {
	t.Helper()
	if got := x.Read(); got != r {
		t.Errorf("it holds %d, %x; not %d, %x", got.Count, got.Root, r.Count, r.Root)
	}
	if got := x.Last(); got != (r.Count == math.MaxUint64) {
		t.Errorf("Last is %v of count %d", got, r.Count)
	}
}

// set fails if Set doesn't answer want, or the register doesn't hold then what it should.
func set(t *testing.T, x *trust.Trust, r api.Reg, want api.Errno) {
	t.Helper()
	then := x.Read()
	if want == api.OK {
		then = r
	}
	if got := x.Set(r); got != want {
		t.Errorf("Set of %d: %d, not %d", r.Count, got, want)
	}
	holds(t, x, then)
}

// regs are what registers may hold: counts at all ends, roots of noughts, of ones and of other bytes.
func regs() []api.Reg {
	var l []api.Reg
	for _, c := range counts() {
		l = append(l, api.Reg{Count: c}, reg(c, 0), reg(c, 200), api.Reg{Count: c, Root: api.Digest{31: 1}},
			api.Reg{Count: c, Root: api.Digest(bytes.Repeat([]byte{255}, 32))})
	}
	return l
}

func counts() []uint64 {
	return []uint64{0, 1, 2, 3, 255, 256, 1<<31 - 1, 1 << 31, 1<<32 - 1, 1 << 32, 1<<53 + 1, 1<<63 - 1, 1 << 63, 1<<63 + 1,
		math.MaxUint64 - 2, math.MaxUint64 - 1, math.MaxUint64}
}

// devices are of all kinds: of no line, of some, with the power off, armed, and one that New did not make.
func devices() map[string]*nvm.Device {
	off, armed := nvm.New(2), nvm.New(2)
	off.Crash()
	armed.Arm(1)
	return map[string]*nvm.Device{"none": nvm.New(0), "some": nvm.New(3), "off": off, "armed": armed, "unmade": {}}
}

// The chapter's example.
func TestExample(t *testing.T) {
	x := trust.New(nvm.New(1))
	set(t, x, reg(1, 9), api.OK)
	set(t, x, reg(1, 9), api.ErrRange)
}

// P9.1
func TestNewHoldsNoughts(t *testing.T) {
	for name, d := range devices() {
		x := trust.New(d)
		if x == nil {
			t.Fatal("no register beside a device:", name)
		}
		holds(t, x, api.Reg{})
	}
}

// P9.1
func TestAtHoldsWhatIsHandedIn(t *testing.T) {
	for name, d := range devices() {
		for _, r := range regs() {
			x := trust.At(d, r)
			if x == nil {
				t.Fatal("no register beside a device:", name)
			}
			holds(t, x, r)
			holds(t, x, r)
		}
	}
}

// P9.1: making, reading and asking is no act, and the device stays as it was.
func TestOnlySetIsAnAct(t *testing.T) {
	d := nvm.New(2)
	d.Arm(1)
	holds(t, trust.New(d), api.Reg{})
	holds(t, trust.At(d, reg(math.MaxUint64, 1)), reg(math.MaxUint64, 1))
	if len(d.Acts()) != 0 || d.Down() {
		t.Error("acts", d.Acts(), d.Down())
	}
}

// P9.2, P9.3: each count against each other one.
func TestSetTakesACountThatIsAbove(t *testing.T) {
	for _, was := range regs() {
		for _, r := range regs() {
			want := api.ErrRange
			if r.Count > was.Count {
				want = api.OK
			}
			d := nvm.New(0)
			x := trust.At(d, was)
			set(t, x, r, want)
			if acts := map[api.Errno]int{api.OK: 1}[want]; len(d.Acts()) != acts {
				t.Errorf("%d acts of Set of %d behind %d", len(d.Acts()), r.Count, was.Count)
			}
			set(t, x, r, api.ErrRange)
		}
	}
}

// P9.2: counts that are equal, below, above, one behind the other, up to the end.
func TestSetsBehindOneAnother(t *testing.T) {
	x := trust.New(nvm.New(1))
	rows := []struct {
		count uint64
		want  api.Errno
	}{
		{0, api.ErrRange}, {1, api.OK}, {1, api.ErrRange}, {0, api.ErrRange}, {2, api.OK}, {1, api.ErrRange}, {900, api.OK},
		{899, api.ErrRange}, {901, api.OK}, {1 << 63, api.OK}, {1<<63 - 1, api.ErrRange}, {math.MaxUint64 - 1, api.OK},
		{math.MaxUint64 - 1, api.ErrRange}, {math.MaxUint64, api.OK}, {math.MaxUint64, api.ErrRange}, {0, api.ErrRange}, {1, api.ErrRange},
	}
	for k, r := range rows {
		set(t, x, reg(r.count, byte(k)), r.want)
	}
}

// P9.2: a Set is one act, of the kind Other, and only if nothing is refused; no byte of the device is touched.
func TestSetIsAnActOfTheDevice(t *testing.T) {
	d := nvm.New(2)
	d.Store(60, []byte("across"))
	d.Flush(60, 6)
	was, image := d.Acts(), d.Image()
	x := trust.New(d)
	set(t, x, reg(5, 1), api.OK)
	set(t, x, reg(5, 2), api.ErrRange)
	set(t, x, reg(4, 3), api.ErrRange)
	set(t, x, reg(6, 4), api.OK)
	want := append(was, nvm.Act{Kind: nvm.Other}, nvm.Act{Kind: nvm.Other})
	if !slices.Equal(d.Acts(), want) {
		t.Errorf("the acts are %v, not %v", d.Acts(), want)
	}
	if got, e := d.Load(60, 6); d.Pending() != 2 || !bytes.Equal(d.Image(), image) || e != api.OK || string(got) != "across" {
		t.Errorf("the device's bytes: %d pending, %q, %d", d.Pending(), got, e)
	}
}

// P9.2: ErrDown comes ahead of ErrRange.
func TestSetWhileThePowerIsOff(t *testing.T) {
	for _, was := range regs() {
		d := nvm.New(1)
		x := trust.At(d, was)
		d.Crash(1)
		for _, r := range regs() {
			set(t, x, r, api.ErrDown)
		}
		if len(d.Acts()) != 0 || !d.Down() {
			t.Fatal("acts", d.Acts(), d.Down())
		}
		d.On()
		holds(t, x, was)
		set(t, x, reg(was.Count, 1), api.ErrRange)
		if was.Count < math.MaxUint64 {
			set(t, x, reg(was.Count+1, 1), api.OK)
		}
	}
}

// P9.2, P9.3: the power goes at the very Set.
func TestThePowerGoesAtTheSet(t *testing.T) {
	for _, was := range []api.Reg{{}, reg(7, 3), reg(math.MaxUint64-1, 3)} {
		d := nvm.New(1)
		x := trust.At(d, was)
		d.Store(0, []byte{1, 2, 3})
		d.Arm(1, 1)
		set(t, x, reg(was.Count+1, 8), api.ErrDown)
		if !d.Down() || len(d.Acts()) != 1 || d.Image()[2] != 3 {
			t.Error("the power is not off, or went otherwise:", d.Down(), d.Acts(), d.Image()[:4])
		}
		set(t, x, reg(was.Count+1, 8), api.ErrDown)
		set(t, x, was, api.ErrDown)
		d.On()
		holds(t, x, was)
		set(t, x, reg(was.Count+1, 8), api.OK)
	}
}

// P9.2: a Set is counted as one act by an Arm, one that is refused as none.
func TestArmCountsSets(t *testing.T) {
	d := nvm.New(1)
	x := trust.New(d)
	d.Arm(3)
	set(t, x, reg(4, 1), api.OK)
	set(t, x, reg(4, 2), api.ErrRange)
	set(t, x, reg(3, 2), api.ErrRange)
	set(t, x, reg(0, 2), api.ErrRange)
	set(t, x, reg(5, 2), api.OK)
	set(t, x, reg(5, 3), api.ErrRange)
	set(t, x, reg(6, 3), api.ErrDown)
	d.On()
	set(t, x, reg(6, 3), api.OK)
	d.Arm(1)
	if e := d.Fence(); e != api.ErrDown {
		t.Error("Fence", e)
	}
	set(t, x, reg(7, 4), api.ErrDown)
}

// P9.3: whatever befalls, the count only rises, and a loss of power leaves all as it is.
func TestCountOnlyRises(t *testing.T) {
	for seed := range 100 {
		r := rand.New(rand.NewSource(int64(seed)))
		d := nvm.New(1)
		held := reg(uint64(r.Intn(5)), byte(seed))
		x := trust.At(d, held)
		until := 0
		for range 200 {
			next := reg(held.Count+uint64(r.Intn(6))-min(held.Count, 3), byte(r.Int()))
			want := api.OK
			switch r.Intn(8) {
			case 0:
				d.Crash(byte(r.Int()))
				until = 0
			case 1, 2:
				d.On()
				until = 0
			case 3:
				until = r.Intn(4)
				d.Arm(until)
			case 4:
				d.Tamper(0, []byte("others"))
			default:
				switch {
				case d.Down():
					want = api.ErrDown
				case next.Count <= held.Count:
					want = api.ErrRange
				case until == 1:
					want, until = api.ErrDown, 0
				default:
					held, until = next, max(until-1, 0)
				}
				if e := x.Set(next); e != want {
					t.Fatalf("seed %d: Set of %d behind %d: %d, not %d", seed, next.Count, held.Count, e, want)
				}
			}
			if x.Read() != held {
				t.Fatalf("seed %d: it holds %v, not %v", seed, x.Read(), held)
			}
		}
	}
}

// Rule 6: registers know nothing of each other, but that they are beside one device.
func TestSeveralRegisters(t *testing.T) {
	d, far := nvm.New(1), nvm.New(1)
	one, two, other := trust.New(d), trust.At(d, reg(10, 1)), trust.New(far)
	set(t, one, reg(3, 2), api.OK)
	holds(t, two, reg(10, 1))
	holds(t, other, api.Reg{})
	set(t, two, reg(3, 2), api.ErrRange)
	set(t, two, reg(11, 3), api.OK)
	holds(t, one, reg(3, 2))
	set(t, other, reg(1, 4), api.OK)
	if len(d.Acts()) != 2 || len(far.Acts()) != 1 {
		t.Error("acts", d.Acts(), far.Acts())
	}
	d.Arm(1)
	set(t, one, reg(4, 5), api.ErrDown)
	set(t, two, reg(12, 5), api.ErrDown)
	set(t, other, reg(2, 5), api.OK)
	d.On()
	set(t, two, reg(12, 5), api.OK)
	set(t, one, reg(4, 5), api.OK)
}

// Rules 4 and 5: what is handed in is neither changed nor kept, and what is answered is a value of its own.
func TestRegistersAreValues(t *testing.T) {
	r := reg(4, 5)
	x := trust.At(nvm.New(1), r)
	r.Root[0], r.Count = 99, 0
	holds(t, x, reg(4, 5))
	next := reg(6, 7)
	set(t, x, next, api.OK)
	if next != reg(6, 7) {
		t.Error("changed")
	}
	next.Root[31] = 1
	got := x.Read()
	got.Root[0], got.Count = 1, 1
	holds(t, x, reg(6, 7))
}

// P9.1, P9.2, P1: nil devices and registers, and a register that neither New nor At made.
func TestNil(t *testing.T) {
	if trust.New(nil) != nil {
		t.Error("New of a nil device")
	}
	for _, r := range regs() {
		if trust.At(nil, r) != nil {
			t.Error("At of a nil device")
		}
		for _, x := range []*trust.Trust{nil, {}} {
			if e := x.Set(r); e != api.ErrNil || x.Read() != (api.Reg{}) || x.Last() {
				t.Errorf("of a nil one: %d, %v, %v", e, x.Read(), x.Last())
			}
		}
	}
}
