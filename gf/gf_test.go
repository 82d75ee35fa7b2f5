package gf_test

import (
	"math"
	"testing"

	"garderobe/gf"
)

// product is what a product is by the words: bits put together, then divided by x^8 + x^4 + x^3 + x + 1.
func product(a, b byte) byte {
	var p uint
	for k := range 8 {
		if b>>k&1 == 1 {
			p ^= uint(a) << k
		}
	}
	for k := 15; k >= 8; k-- {
		if p>>k&1 == 1 {
			p ^= 0x11B << (k - 8)
		}
	}
	return byte(p)
}

// products are all of them, as Mul tells them.
func products() *[256][256]byte {
	var t [256][256]byte
	for a := range 256 {
		for b := range 256 {
			t[a][b] = gf.Mul(byte(a), byte(b))
		}
	}
	return &t
}

// columns are four bytes of many kinds.
func columns() [][4]byte {
	l := [][4]byte{{}, {255, 255, 255, 255}, {1, 2, 3, 4}, {0xDB, 0x13, 0x53, 0x45}}
	for k := range 4 {
		for v := range 256 {
			var c [4]byte
			c[k] = byte(v)
			l = append(l, c)
		}
	}
	for v := range 4000 {
		l = append(l, [4]byte{byte(v * 7), byte(v * 31 >> 2), byte(v * v), byte(v*v>>3 + 5)})
	}
	return l
}

// P2.1
func TestMulIsTheProduct(t *testing.T) {
	for a := range 256 {
		for b := range 256 {
			if got, want := gf.Mul(byte(a), byte(b)), product(byte(a), byte(b)); got != want {
				t.Fatalf("Mul(%x, %x) is %x, not %x", a, b, got, want)
			}
		}
	}
	if gf.Mul(0x57, 0x83) != 0xC1 || gf.Mul(0, 0) != 0 || gf.Mul(0, 255) != 0 || gf.Mul(255, 0) != 0 || gf.Mul(1, 255) != 255 {
		t.Error("the example, noughts, one")
	}
}

// P2.1
func TestInvIsTheOtherFactorOfOne(t *testing.T) {
	if gf.Inv(0) != 0 || gf.Inv(1) != 1 || gf.Inv(0x53) != 0xCA {
		t.Error("Inv of 0, 1, 53", gf.Inv(0), gf.Inv(1), gf.Inv(0x53))
	}
	for a := 1; a < 256; a++ {
		if i := gf.Inv(byte(a)); product(byte(a), i) != 1 {
			t.Errorf("Inv(%x) is %x", a, i)
		}
	}
}

// P2.1
func TestPowerIsSoManyFactors(t *testing.T) {
	for a := range 256 {
		want := byte(1)
		for n := range 600 {
			if got := gf.Power(byte(a), n); got != want {
				t.Fatalf("Power(%x, %d) is %x, not %x", a, n, got, want)
			}
			want = product(want, byte(a))
		}
	}
}

// P2.1, P1
func TestPowerOfAnyNumberOfFactors(t *testing.T) {
	for a := range 256 {
		for _, n := range []int{0, -1, -2, -255, -256, math.MinInt, math.MinInt + 1} {
			if got := gf.Power(byte(a), n); got != 1 {
				t.Errorf("Power(%x, %d) is %x", a, n, got)
			}
		}
		for _, n := range []int{1 << 31, 1<<32 + 3, math.MaxInt - 1, math.MaxInt} {
			want := gf.Power(byte(a), n%255)
			if a == 0 {
				want = 0
			}
			if got := gf.Power(byte(a), n); got != want {
				t.Errorf("Power(%x, %d) is %x, not %x", a, n, got, want)
			}
		}
	}
}

// substitute is what Sub is by the words, bit by bit.
func substitute(c byte) byte {
	i, out := gf.Inv(c), byte(0)
	for k := range 8 {
		bit := byte(0x63)>>k ^ i>>k ^ i>>((k+4)%8) ^ i>>((k+5)%8) ^ i>>((k+6)%8) ^ i>>((k+7)%8)
		out |= bit & 1 << k
	}
	return out
}

// P2.2
func TestSubAndBack(t *testing.T) {
	b := gf.NewBox()
	if b.Sub(0) != 0x63 || b.Sub(0x53) != 0xED || b.Sub(255) != 0x16 || b.Back(0x63) != 0 || b.Back(0xED) != 0x53 || b.Back(0) != 0x52 {
		t.Error("known bytes")
	}
	for c := range 256 {
		if got, want := b.Sub(byte(c)), substitute(byte(c)); got != want {
			t.Errorf("Sub(%x) is %x, not %x", c, got, want)
		}
		if got := b.Sub(b.Back(byte(c))); got != byte(c) {
			t.Errorf("Sub of Back(%x) is %x", c, got)
		}
	}
}

// P2.2, rule 6
func TestBoxesAreAlike(t *testing.T) {
	a, b := gf.NewBox(), gf.NewBox()
	for c := range 256 {
		if a.Sub(byte(c)) != b.Sub(byte(c)) || a.Back(byte(c)) != b.Back(byte(c)) || a.Sub(byte(c)) != a.Sub(byte(c)) {
			t.Errorf("two boxes at %x", c)
		}
	}
}

// P2.2, P1
func TestNilBox(t *testing.T) {
	var b *gf.Box
	for c := range 256 {
		if b.Sub(byte(c)) != 0 || b.Back(byte(c)) != 0 {
			t.Errorf("a nil box at %x", c)
		}
	}
}

// combined is a column whose number k has f[j] times c's number k + j.
func combined(c, f [4]byte) [4]byte {
	var out [4]byte
	for k := range 4 {
		for j := range 4 {
			out[k] ^= product(f[j], c[(k+j)%4])
		}
	}
	return out
}

// P2.3
func TestMixAndUnmix(t *testing.T) {
	for _, c := range columns() {
		was := c
		if got, want := gf.Mix(c), combined(c, [4]byte{2, 3, 1, 1}); got != want {
			t.Fatalf("Mix(% x) is % x, not % x", c, got, want)
		}
		if got, want := gf.Unmix(c), combined(c, [4]byte{14, 11, 13, 9}); got != want {
			t.Fatalf("Unmix(% x) is % x, not % x", c, got, want)
		}
		if c != was {
			t.Fatal("the column was changed")
		}
	}
}

// P2.3: columns that are printed beside AES.
func TestMixOfKnownColumns(t *testing.T) {
	rows := [][2][4]byte{
		{{0xDB, 0x13, 0x53, 0x45}, {0x8E, 0x4D, 0xA1, 0xBC}},
		{{0xF2, 0x0A, 0x22, 0x5C}, {0x9F, 0xDC, 0x58, 0x9D}},
		{{1, 1, 1, 1}, {1, 1, 1, 1}},
		{{0xD4, 0xD4, 0xD4, 0xD5}, {0xD5, 0xD5, 0xD7, 0xD6}},
		{{}, {}},
	}
	for _, r := range rows {
		if got := gf.Mix(r[0]); got != r[1] {
			t.Errorf("Mix(% x) is % x", r[0], got)
		}
		if got := gf.Unmix(r[1]); got != r[0] {
			t.Errorf("Unmix(% x) is % x", r[1], got)
		}
	}
}

// P2.4
func TestProductsInAnyOrderAndOverSums(t *testing.T) {
	m := products()
	for a := range 256 {
		for b := range 256 {
			ab := m[a][b]
			if ab != m[b][a] {
				t.Fatalf("%x times %x", a, b)
			}
			for c := range 256 {
				if m[ab][c] != m[a][m[b][c]] || m[a][b^c] != ab^m[a][c] {
					t.Fatalf("%x, %x, %x", a, b, c)
				}
			}
		}
	}
}

// P2.5
func TestSubGoesThroughAllBytesOnce(t *testing.T) {
	b := gf.NewBox()
	var seen [256]int
	for c := range 256 {
		seen[b.Sub(byte(c))]++
		if got := b.Back(b.Sub(byte(c))); got != byte(c) {
			t.Errorf("Back of Sub(%x) is %x", c, got)
		}
	}
	for c, n := range seen {
		if n != 1 {
			t.Errorf("%x is Sub of %d bytes", c, n)
		}
	}
}

// P2.5
func TestUnmixOfMixIsWhatWasThere(t *testing.T) {
	for _, c := range columns() {
		if got := gf.Unmix(gf.Mix(c)); got != c {
			t.Fatalf("Unmix of Mix(% x) is % x", c, got)
		}
		if got := gf.Mix(gf.Unmix(c)); got != c {
			t.Fatalf("Mix of Unmix(% x) is % x", c, got)
		}
	}
}
