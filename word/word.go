// Package word is layer 1: numbers as bytes. See shared/doc/01-word.md.
package word

import (
	"bytes"

	"garderobe/api"
)

const (
	mostNum = 8     // bytes of the widest number
	mostPad = 65536 // bytes that Pad answers at most
)

// up and down tell which byte of a number comes next: up from the lowest one on, down from the one below at.
type (
	up   struct{ at int }
	down struct{ at int }
)

func (u *up) next() int {
	u.at++
	return u.at - 1
}

func (d *down) next() int {
	d.at--
	return d.at
}

// Put is v's n lowest bytes, the lowest first.
func Put(n int, v uint64) []byte { return spell(n, v, (&up{}).next) }

// High is v's n lowest bytes, the highest first.
func High(n int, v uint64) []byte { return spell(n, v, (&down{n}).next) }

// Get is the number whose bytes, the lowest first, the first eight of b are.
func Get(b []byte) uint64 { return number(b[:min(len(b), mostNum)], (&up{}).next) }

// spell is n bytes of v, each the one that next tells.
func spell(n int, v uint64, next func() int) []byte {
	if !fits(n) {
		return nil
	}
	out := make([]byte, n)
	for k := range out {
		out[k] = byte(v >> (8 * next()))
	}
	return out
}

// number has b's bytes, each in the place that next tells.
func number(b []byte, next func() int) uint64 {
	var v uint64
	for _, c := range b {
		v |= uint64(c) << (8 * next())
	}
	return v
}

// fits tells whether a number may have n bytes.
func fits(n int) bool { return 1 <= n && n <= mostNum }

// Xor is a and b, byte by byte, exclusively, as many as the shorter one has.
func Xor(a, b []byte) []byte {
	out := make([]byte, min(len(a), len(b)))
	for k := range out {
		out[k] = a[k] ^ b[k]
	}
	return out
}

// Same tells whether a and b are as long, and the same byte by byte.
func Same(a, b []byte) bool { return bytes.Equal(a, b) }

// Pad is b's first n bytes, with noughts behind, if there are not so many.
func Pad(b []byte, n int) []byte {
	if n < 1 || n > mostPad {
		return nil
	}
	out := make([]byte, n)
	copy(out, b)
	return out
}

// Zero tells whether all bytes are 0.
func Zero(b []byte) bool {
	for _, c := range b {
		if c != 0 {
			return false
		}
	}
	return true
}

// Row reads fields, one behind the other.
type Row struct {
	left []byte // none from an error on
	err  api.Errno
}

// Of stands ahead of b's first byte. It reads from a copy, since b may be written into later.
func Of(b []byte) *Row { return &Row{left: bytes.Clone(b)} }

// Num is the number of the next n bytes, the lowest first.
func (r *Row) Num(n int) uint64 { return Get(r.take(n, fits(n))) }

// Bytes is the next n bytes, as a list of their own.
func (r *Row) Bytes(n int) []byte { return bytes.Clone(r.take(n, n >= 0)) }

// take is the next n bytes, if so many may be asked for (may).
func (r *Row) take(n int, may bool) []byte {
	switch {
	case r == nil || r.err != api.OK:
		return nil
	case !may:
		return r.fail(api.ErrArg)
	case n > len(r.left):
		return r.fail(api.ErrRange)
	}
	out := r.left[:n]
	r.left = r.left[n:]
	return out
}

// fail keeps the first error: nothing is left behind it.
func (r *Row) fail(e api.Errno) []byte {
	r.left, r.err = nil, e
	return nil
}

// Rest is how many bytes are left.
func (r *Row) Rest() int {
	if r == nil {
		return 0
	}
	return len(r.left)
}

// Err is the first error, or OK.
func (r *Row) Err() api.Errno {
	if r == nil {
		return api.ErrNil
	}
	return r.err
}
