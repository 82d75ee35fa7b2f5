package aes_test

import (
	"bytes"
	standard "crypto/aes"
	"encoding/hex"
	"math"
	"math/rand"
	"testing"

	"garderobe/aes"
	"garderobe/api"
	"garderobe/gf"
)

// made is the cipher of a key that may be.
func made(t *testing.T, key []byte) *aes.Cipher {
	t.Helper()
	c, e := aes.New(gf.NewBox(), key)
	if c == nil || e != api.OK {
		t.Fatalf("New of %d bytes: %d", len(key), e)
	}
	return c
}

// rising is n bytes from 0 on.
func rising(n int) []byte {
	b := make([]byte, n)
	for k := range b {
		b[k] = byte(k)
	}
	return b
}

func hexed(t *testing.T, s string) []byte {
	t.Helper()
	b, err := hex.DecodeString(s)
	if err != nil {
		t.Fatal(err)
	}
	return b
}

// keys are of both lengths: of many kinds, and with each bit alone.
func keys() [][]byte {
	var l [][]byte
	r := rand.New(rand.NewSource(5))
	for _, n := range []int{16, 32} {
		l = append(l, make([]byte, n), bytes.Repeat([]byte{255}, n), rising(n))
		for bit := range 8 * n {
			b := make([]byte, n)
			b[bit/8] = 1 << (bit % 8)
			l = append(l, b)
		}
		for range 50 {
			b := make([]byte, n)
			r.Read(b)
			l = append(l, b)
		}
	}
	return l
}

// texts are sixteen bytes of many kinds, and with each bit alone.
func texts() [][16]byte {
	l := [][16]byte{{}, [16]byte(bytes.Repeat([]byte{255}, 16)), [16]byte(rising(16))}
	for bit := range 128 {
		var p [16]byte
		p[bit/8] = 1 << (bit % 8)
		l = append(l, p)
	}
	r := rand.New(rand.NewSource(6))
	for range 50 {
		var p [16]byte
		r.Read(p[:])
		l = append(l, p)
	}
	return l
}

// P5.2, the example, and what is printed beside AES.
func TestKnownTexts(t *testing.T) {
	rows := [][3]string{
		{"000102030405060708090a0b0c0d0e0f", "00112233445566778899aabbccddeeff", "69c4e0d86a7b0430d8cdb78070b4c55a"},
		{"2b7e151628aed2a6abf7158809cf4f3c", "3243f6a8885a308d313198a2e0370734", "3925841d02dc09fbdc118597196a0b32"},
		{"2b7e151628aed2a6abf7158809cf4f3c", "6bc1bee22e409f96e93d7e117393172a", "3ad77bb40d7a3660a89ecaf32466ef97"},
		{"000102030405060708090a0b0c0d0e0f101112131415161718191a1b1c1d1e1f", "00112233445566778899aabbccddeeff",
			"8ea2b7ca516745bfeafc49904b496089"},
		{"603deb1015ca71be2b73aef0857d77811f352c073b6108d72d9810a30914dff4", "6bc1bee22e409f96e93d7e117393172a",
			"f3eed1bdb5d2a03c064b5a7e3db181f8"},
	}
	for _, r := range rows {
		c := made(t, hexed(t, r[0]))
		plain, hidden := [16]byte(hexed(t, r[1])), [16]byte(hexed(t, r[2]))
		if got := c.Encrypt(plain); got != hidden {
			t.Errorf("key %s: %s is encrypted to %x, not %s", r[0], r[1], got, r[2])
		}
		if got := c.Decrypt(hidden); got != plain {
			t.Errorf("key %s: %s is decrypted to %x, not %s", r[0], r[2], got, r[1])
		}
	}
}

// P5.2, P5.3: there and back, and back and there, as another AES does.
func TestEncryptAndDecrypt(t *testing.T) {
	for _, key := range keys() {
		c := made(t, key)
		other, err := standard.NewCipher(key)
		if err != nil {
			t.Fatal(err)
		}
		for _, p := range texts() {
			var hidden, plain [16]byte
			other.Encrypt(hidden[:], p[:])
			other.Decrypt(plain[:], p[:])
			if got := c.Encrypt(p); got != hidden || c.Decrypt(got) != p {
				t.Fatalf("key %x: %x is encrypted to %x, not %x, and back to %x", key, p, got, hidden, c.Decrypt(got))
			}
			if got := c.Decrypt(p); got != plain || c.Encrypt(got) != p {
				t.Fatalf("key %x: %x is decrypted to %x, not %x, and back to %x", key, p, got, plain, c.Encrypt(got))
			}
		}
	}
}

// schedule is a key's schedule by the words, a byte at a time.
func schedule(b *gf.Box, key []byte) [][4]byte {
	n := len(key) / 4
	var w [][4]byte
	for i := 0; i < 4*(n+7); i++ {
		var next [4]byte
		for r := range 4 {
			switch {
			case i < n:
				next[r] = key[4*i+r]
				continue
			case i%n == 0:
				next[r] = b.Sub(w[i-1][(r+1)%4])
			case n == 8 && i%8 == 4:
				next[r] = b.Sub(w[i-1][r])
			default:
				next[r] = w[i-1][r]
			}
			next[r] ^= w[i-n][r]
		}
		if i%n == 0 && i > 0 {
			two := byte(1)
			for range i/n - 1 {
				two = gf.Mul(two, 2)
			}
			next[0] ^= two
		}
		w = append(w, next)
	}
	return w
}

// beside are numbers that no word of a schedule of n words has.
func beside(n int) []int {
	return []int{-1, -2, -4, -n, n, n + 1, n + 3, n + 4, 60, 61, 64, 1 << 31, 1 << 32, math.MaxInt, math.MinInt}
}

// P5.1
func TestScheduleIsByTheWords(t *testing.T) {
	for _, key := range keys() {
		c, want := made(t, key), schedule(gf.NewBox(), key)
		if rounds := map[int]int{16: 10, 32: 14}[len(key)]; c.Rounds() != rounds || len(want) != 4*rounds+4 {
			t.Fatalf("%d rounds and %d words of %d bytes", c.Rounds(), len(want), len(key))
		}
		for k, w := range want {
			if got := c.Word(k); got != w {
				t.Fatalf("key %x: word %d is %x, not %x", key, k, got, w)
			}
		}
		for _, k := range beside(len(want)) {
			if got := c.Word(k); got != [4]byte{} {
				t.Errorf("word %d of %d is %x", k, len(want), got)
			}
		}
	}
}

// P5.1: words that are printed beside AES, at the ends and where they are made otherwise.
func TestKnownWords(t *testing.T) {
	rows := []struct {
		key   string
		words map[int]string
	}{
		{"2b7e151628aed2a6abf7158809cf4f3c",
			map[int]string{0: "2b7e1516", 3: "09cf4f3c", 4: "a0fafe17", 5: "88542cb1", 8: "f2c295f2", 40: "d014f9a8", 43: "b6630ca6"}},
		{"603deb1015ca71be2b73aef0857d77811f352c073b6108d72d9810a30914dff4",
			map[int]string{0: "603deb10", 7: "0914dff4", 8: "9ba35411", 12: "a8b09c1a", 16: "d59aecb8", 56: "fe4890d1", 59: "706c631e"}},
	}
	for _, r := range rows {
		c := made(t, hexed(t, r.key))
		for k, want := range r.words {
			if got := c.Word(k); got != [4]byte(hexed(t, want)) {
				t.Errorf("word %d is %x, not %s", k, got, want)
			}
		}
	}
}

// P5.1, P1
func TestKeysThatMayNotBe(t *testing.T) {
	b := gf.NewBox()
	refused := func(b *gf.Box, k api.Key, want api.Errno) {
		t.Helper()
		if c, e := aes.New(b, k); c != nil || e != want {
			t.Errorf("New of %d bytes: %d, not %d", len(k), e, want)
		}
	}
	refused(b, nil, api.ErrArg)
	for n := range 300 {
		refused(nil, make(api.Key, n), api.ErrNil)
		if n != 16 && n != 32 {
			refused(b, make(api.Key, n), api.ErrArg)
		}
	}
	for _, n := range []int{256 + 16, 256 + 32, 1 << 16, 1<<16 + 16, 1 << 20} {
		refused(b, make(api.Key, n), api.ErrArg)
	}
	refused(nil, nil, api.ErrNil)
	refused(b, make(api.Key, 8, 16), api.ErrArg)
}

// P5.1, P1: a nil cipher, and one that New did not make.
func TestNilCipher(t *testing.T) {
	for _, c := range []*aes.Cipher{nil, {}} {
		if c.Rounds() != 0 {
			t.Error("rounds", c.Rounds())
		}
		for _, k := range append(beside(44), 0, 1, 3, 4, 43, 59) {
			if c.Word(k) != [4]byte{} {
				t.Errorf("word %d is %x", k, c.Word(k))
			}
		}
		for _, p := range texts() {
			if c.Encrypt(p) != [16]byte{} || c.Decrypt(p) != [16]byte{} {
				t.Fatalf("%x becomes %x and %x", p, c.Encrypt(p), c.Decrypt(p))
			}
		}
	}
}

// P5.1, P5.2: it is the box that is handed in through which bytes are put, here one that makes all bytes 0.
func TestTheBoxIsTheOneHandedIn(t *testing.T) {
	for _, n := range []int{16, 32} {
		b := &gf.Box{}
		c, e := aes.New(b, rising(n))
		if e != api.OK {
			t.Fatal(e)
		}
		want := schedule(b, rising(n))
		var last [16]byte
		for k, w := range want {
			if c.Word(k) != w {
				t.Fatalf("word %d is %x, not %x", k, c.Word(k), w)
			}
			copy(last[4*(k%4):], w[:])
		}
		if got := c.Encrypt([16]byte{1, 2, 3}); got != last {
			t.Errorf("%x, not the key of the last round %x", got, last)
		}
		if got := c.Decrypt([16]byte{1, 2, 3}); got != [16]byte(rising(16)) {
			t.Errorf("%x, not the key of round 0", got)
		}
	}
}

// Rules 4 and 5: keys, boxes and texts are neither changed nor kept.
func TestWhatIsHandedInIsNeitherChangedNorKept(t *testing.T) {
	for _, n := range []int{16, 32} {
		b, key := gf.NewBox(), append(rising(n), 7, 7, 7)
		c, _ := aes.New(b, key[:n])
		p := [16]byte{1, 2, 3}
		hidden, word := c.Encrypt(p), c.Word(n/4+1)
		c.Decrypt(p)
		if !bytes.Equal(key, append(rising(n), 7, 7, 7)) || p != [16]byte{1, 2, 3} || *b != *gf.NewBox() {
			t.Fatal("changed")
		}
		clear(key)
		*b = gf.Box{}
		if c.Encrypt(p) != hidden || c.Decrypt(hidden) != p || c.Word(n/4+1) != word || c.Word(1) != [4]byte{4, 5, 6, 7} {
			t.Error("kept")
		}
	}
}

// Rule 6: ciphers know nothing of each other, nor a call of the calls ahead of it.
func TestCiphersAreApart(t *testing.T) {
	b := gf.NewBox()
	one, _ := aes.New(b, rising(16))
	p := [16]byte{9}
	hidden, plain := one.Encrypt(p), one.Decrypt(p)
	other, _ := aes.New(b, rising(32))
	again, _ := aes.New(b, rising(16))
	if other.Encrypt(p) == hidden || again.Encrypt(p) != hidden {
		t.Error("another cipher")
	}
	for range 3 {
		if one.Encrypt(p) != hidden || one.Decrypt(p) != plain || one.Rounds() != 10 || other.Rounds() != 14 {
			t.Error("the same call")
		}
	}
}
