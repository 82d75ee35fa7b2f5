// Package gf is layer 2: bytes as polynomials. See shared/doc/02-gf.md.
package gf

import "math/bits"

const (
	wrap   = 0x1B // what x^8 is, modulo x^8 + x^4 + x^3 + x + 1
	offset = 0x63 // what Sub adds
)

// poly is a byte as a polynomial: bit k is what stands ahead of x to the k.
type poly byte

// times is the product of p and q.
func (p poly) times(q poly) poly {
	var out poly
	for ; q != 0; q >>= 1 {
		if q&1 == 1 {
			out ^= p
		}
		p = p.twice()
	}
	return out
}

// The products that columns are mixed of.

func (p poly) once() poly { return p }

func (p poly) twice() poly {
	if p&0x80 != 0 {
		return p<<1 ^ wrap
	}
	return p << 1
}

func (p poly) thrice() poly { return p.twice() ^ p }
func (p poly) by9() poly    { return p.times(9) }
func (p poly) by11() poly   { return p.times(11) }
func (p poly) by13() poly   { return p.times(13) }
func (p poly) by14() poly   { return p.times(14) }

// sum is the sum of n terms, from number 0 on.
func sum(n int, term func(k int) poly) poly {
	var out poly
	for k := range n {
		out ^= term(k)
	}
	return out
}

// Mul is the product of a and b.
func Mul(a, b byte) byte { return byte(poly(a).times(poly(b))) }

// Inv is the byte whose product with a is 1; 0 of 0. Since a to the 255 is 1 for each a but 0, a to the 254 is that byte.
func Inv(a byte) byte { return Power(a, 254) }

// Power is a times itself, n factors; 1, if n is below 1. It squares on the way, so that it ends soon for any n.
func Power(a byte, n int) byte {
	out, square := poly(1), poly(a)
	for ; n > 0; n >>= 1 {
		if n&1 == 1 {
			out = out.times(square)
		}
		square = square.times(square)
	}
	return byte(out)
}

// Mix is a column of AES, mixed.
func Mix(c [4]byte) [4]byte {
	return mixed(c, [4]func(poly) poly{poly.twice, poly.thrice, poly.once, poly.once})
}

// Unmix is the column whose Mix is c.
func Unmix(c [4]byte) [4]byte {
	return mixed(c, [4]func(poly) poly{poly.by14, poly.by11, poly.by13, poly.by9})
}

// mixed has as its number k the sum of the products of c's bytes from number k on, each by its own.
func mixed(c [4]byte, by [4]func(poly) poly) [4]byte {
	var out [4]byte
	for k := range 4 {
		out[k] = byte(sum(4, func(j int) poly { return by[j](poly(c[(k+j)%4])) }))
	}
	return out
}

// Box is a byte for each byte, and the way back.
type Box struct{ sub, back [256]byte }

// NewBox is the box of AES.
func NewBox() *Box {
	b := &Box{}
	for k := range 256 {
		c := spread(Inv(byte(k)))
		b.sub[k], b.back[c] = c, byte(k)
	}
	return b
}

// spread sums to each bit of i those 4, 5, 6 and 7 places above it, which are there in i turned to the left by 4, 3, 2 and 1.
func spread(i byte) byte {
	turned := sum(5, func(k int) poly { return poly(bits.RotateLeft8(i, k)) })
	return byte(turned) ^ offset
}

// Sub is the byte that the box has for c.
func (b *Box) Sub(c byte) byte {
	if b == nil {
		return 0
	}
	return b.sub[c]
}

// Back is the byte whose Sub is c.
func (b *Box) Back(c byte) byte {
	if b == nil {
		return 0
	}
	return b.back[c]
}
