package seal_test

import (
	"bytes"
	standard "crypto/aes"
	"encoding/binary"
	"math"
	"math/rand"
	"slices"
	"testing"

	"garderobe/aes"
	"garderobe/api"
	"garderobe/gf"
	"garderobe/seal"
)

// key is n bytes of a key, another one of each seed.
func key(n int, seed int64) []byte {
	b := make([]byte, n)
	rand.New(rand.NewSource(seed)).Read(b)
	return b
}

func cipher(t *testing.T, k []byte) *aes.Cipher {
	t.Helper()
	c, e := aes.New(gf.NewBox(), k)
	if e != api.OK {
		t.Fatal(e)
	}
	return c
}

// made is a sealer of the first key of n bytes.
func made(t *testing.T, n int) *seal.Sealer {
	t.Helper()
	s := seal.New(cipher(t, key(n, 1)))
	if s == nil {
		t.Fatal("no sealer of a cipher")
	}
	return s
}

// text is a block's bytes, others of each seed.
func text(seed int64) []byte { return key(256, 1000+seed) }

// sealed is a sealed block by the words, with another AES.
func sealed(t *testing.T, k []byte, n seal.Nonce, p []byte) []byte {
	t.Helper()
	c, err := standard.NewCipher(k)
	if err != nil {
		t.Fatal(err)
	}
	out := bytes.Clone(p)
	for lane := range 16 {
		counter := binary.BigEndian.AppendUint64(nil, n.Epoch)
		counter = binary.BigEndian.AppendUint32(counter, uint32(n.Block))
		counter = append(binary.BigEndian.AppendUint16(counter, uint16(lane)), 0, 0)
		c.Encrypt(counter, counter)
		for i, b := range counter {
			out[16*lane+i] ^= b
		}
	}
	return out
}

// nonces are at all ends: each epoch with each number.
func nonces() []seal.Nonce {
	var l []seal.Nonce
	for _, e := range []uint64{0, 1, 2, 255, 256, 1<<32 - 1, 1 << 32, 1<<63 - 1, 1 << 63, math.MaxUint64 - 1, math.MaxUint64} {
		for _, b := range []int{0, 1, 2, 68, 255, 256, 257, 65534, 65535} {
			l = append(l, seal.Nonce{Epoch: e, Block: b})
		}
	}
	return l
}

// beside are numbers that no block has.
func beside() []int {
	return []int{-1, -2, -256, -65535, -65536, 65536, 65537, 65536 + 256, 1 << 17, 1 << 31, 1<<32 - 1, 1 << 32, 1<<32 + 5,
		math.MaxInt32, math.MinInt32, math.MaxInt - 1, math.MaxInt, math.MinInt, math.MinInt + 1}
}

// does fails if a call doesn't answer these bytes.
func does(t *testing.T, what string, got []byte, e api.Errno, want []byte) {
	t.Helper()
	if e != api.OK || !bytes.Equal(got, want) {
		t.Fatalf("%s: %d,\n% x, not\n% x", what, e, got, want)
	}
}

// refuses fails if a call doesn't answer that error, and nothing beside it.
func refuses(t *testing.T, what string, got []byte, e, want api.Errno) {
	t.Helper()
	if e != want || len(got) != 0 {
		t.Fatalf("%s: %d and %d bytes, not %d", what, e, len(got), want)
	}
}

// used fails if a sealer doesn't tell just these nonces.
func used(t *testing.T, s *seal.Sealer, want ...seal.Nonce) {
	t.Helper()
	if got := s.Used(); !slices.Equal(got, want) {
		t.Fatalf("used are %v, not %v", got, want)
	}
}

// once fails if a sealer tells that a nonce was used twice.
func once(t *testing.T, s *seal.Sealer) {
	t.Helper()
	if n, ok := s.Twice(); ok || n != (seal.Nonce{}) {
		t.Fatalf("%v twice: %v", n, ok)
	}
}

// twice fails if a sealer doesn't tell that this nonce was used twice.
func twice(t *testing.T, s *seal.Sealer, want seal.Nonce) {
	t.Helper()
	if n, ok := s.Twice(); !ok || n != want {
		t.Fatalf("%v twice: %v; not %v", n, ok, want)
	}
}

// puts seals a block that may be sealed.
func puts(t *testing.T, s *seal.Sealer, n seal.Nonce, p []byte) []byte {
	t.Helper()
	b, e := s.Seal(n.Epoch, n.Block, p)
	if e != api.OK || len(b) != 256 {
		t.Fatalf("Seal with %v: %d and %d bytes", n, e, len(b))
	}
	return b
}

// The chapter's example.
func TestExample(t *testing.T) {
	s, n := made(t, 16), seal.Nonce{Epoch: 1, Block: 5}
	puts(t, s, n, text(1))
	puts(t, s, n, text(1))
	once(t, s)
	puts(t, s, n, text(2))
	twice(t, s, n)
}

// P10.1, P10.3: what is sealed, opened and sealed blank is by the words, at all ends.
func TestBlocksAreSealedAndOpened(t *testing.T) {
	for _, size := range []int{16, 32} {
		s, k := made(t, size), key(size, 1)
		for i, n := range nonces() {
			p := text(int64(i))
			want := sealed(t, k, n, p)
			b, e := s.Seal(n.Epoch, n.Block, p)
			does(t, "Seal", b, e, want)
			b, e = s.Open(n.Epoch, n.Block, want)
			does(t, "Open", b, e, p)
			b, e = s.Open(n.Epoch, n.Block, p)
			does(t, "Open of what is not sealed", b, e, want)
			b, e = s.Blank(n.Epoch, n.Block)
			does(t, "Blank", b, e, sealed(t, k, n, make([]byte, 256)))
		}
	}
}

// P10.1: blocks of noughts, of ones, and with a bit alone, each lane of its own.
func TestBlocksOfAllKinds(t *testing.T) {
	s, n := made(t, 32), seal.Nonce{Epoch: 77, Block: 12}
	blank, e := s.Blank(77, 12)
	does(t, "Seal of noughts", puts(t, s, n, make([]byte, 256)), e, blank)
	once(t, s)
	ones := bytes.Repeat([]byte{255}, 256)
	does(t, "Seal of ones", puts(t, s, n, ones), api.OK, sealed(t, key(32, 1), n, ones))
	for k := range 256 {
		p, want := make([]byte, 256), bytes.Clone(blank)
		p[k], want[k] = 1<<(k%8), want[k]^1<<(k%8)
		does(t, "Seal of a bit", puts(t, s, n, p), api.OK, want)
		p, e = s.Open(77, 12, want)
		does(t, "Open of a bit", p, e, append(append(make([]byte, k), 1<<(k%8)), make([]byte, 255-k)...))
	}
}

// P10.3: the way to and fro, with other epochs, numbers and keys: only the same ones bring a block back.
func TestOnlyTheSameNonceBringsBack(t *testing.T) {
	s, other := made(t, 16), seal.New(cipher(t, key(16, 2)))
	p := text(3)
	for _, n := range nonces() {
		b := puts(t, s, n, p)
		for _, o := range nonces() {
			got, e := s.Open(o.Epoch, o.Block, b)
			if e != api.OK || bytes.Equal(got, p) != (n == o) {
				t.Fatalf("what was sealed with %v is opened with %v: %d", n, o, e)
			}
		}
		if got, e := other.Open(n.Epoch, n.Block, b); e != api.OK || bytes.Equal(got, p) {
			t.Fatalf("another key opens %v: %d", n, e)
		}
		if got, e := s.Seal(n.Epoch, n.Block, b); e != api.OK || !bytes.Equal(got, p) {
			t.Fatalf("what is sealed again with %v does not come back: %d", n, e)
		}
	}
}

// P10.1, P1: numbers that no block has, and bytes that no block has; ErrRange comes first. Nothing is taken down.
func TestBlocksThatMayNotBe(t *testing.T) {
	s := made(t, 16)
	for _, epoch := range []uint64{0, 1, math.MaxUint64} {
		for _, size := range []int{0, 1, 16, 255, 256, 257, 512, 65536, 65537} {
			for _, k := range beside() {
				b, e := s.Seal(epoch, k, make([]byte, size))
				refuses(t, "Seal", b, e, api.ErrRange)
				b, e = s.Open(epoch, k, make([]byte, size))
				refuses(t, "Open", b, e, api.ErrRange)
				b, e = s.Blank(epoch, k)
				refuses(t, "Blank", b, e, api.ErrRange)
			}
			if size == 256 {
				continue
			}
			for _, k := range []int{0, 5, 65535} {
				b, e := s.Seal(epoch, k, make([]byte, size, size+256))
				refuses(t, "Seal", b, e, api.ErrArg)
				b, e = s.Open(epoch, k, make([]byte, size, size+256))
				refuses(t, "Open", b, e, api.ErrArg)
			}
		}
	}
	b, e := s.Seal(1, 1, nil)
	refuses(t, "Seal of a nil list", b, e, api.ErrArg)
	b, e = s.Open(1, 1, nil)
	refuses(t, "Open of a nil list", b, e, api.ErrArg)
	used(t, s)
	once(t, s)
}

// P10.2: the nonces of Seal and Blank, each once, by the epoch, then by the number, however they came.
func TestUsedTellsEachNonceOnceInOrder(t *testing.T) {
	want := nonces()
	for seed := range 10 {
		s, r := made(t, 16), rand.New(rand.NewSource(int64(seed)))
		used(t, s)
		all := append(nonces(), nonces()...)
		r.Shuffle(len(all), func(i, j int) { all[i], all[j] = all[j], all[i] })
		for k, n := range all {
			if k%3 == 0 {
				s.Blank(n.Epoch, n.Block)
			} else {
				puts(t, s, n, text(int64(k%2)))
			}
			s.Open(n.Epoch+1, n.Block/2, text(1))
		}
		used(t, s, want...)
		used(t, s, want...)
	}
}

// P10.2: Used grows call by call; neither an Open nor what is refused is told.
func TestUsedGrows(t *testing.T) {
	s := made(t, 32)
	nine, four, last := seal.Nonce{Epoch: 9, Block: 1}, seal.Nonce{Epoch: 4, Block: 65535}, seal.Nonce{Epoch: math.MaxUint64}
	s.Open(9, 1, text(1))
	used(t, s)
	puts(t, s, nine, text(1))
	used(t, s, nine)
	s.Open(9, 2, text(1))
	s.Seal(9, 3, text(1)[:255])
	s.Seal(9, -1, text(1))
	s.Blank(9, 65536)
	puts(t, s, nine, text(1))
	used(t, s, nine)
	s.Blank(4, 65535)
	used(t, s, four, nine)
	puts(t, s, last, text(2))
	used(t, s, four, nine, last)
	puts(t, s, nine, text(2))
	used(t, s, four, nine, last)
	puts(t, s, seal.Nonce{}, text(2))
	used(t, s, seal.Nonce{}, four, nine, last)
}

// P10.2, P10.4: like blocks of one nonce, and unlike ones of unlike nonces, are not twice.
func TestLikeBlocksAreNotTwice(t *testing.T) {
	s := made(t, 16)
	once(t, s)
	for i, n := range nonces() {
		for range 3 {
			puts(t, s, n, text(int64(i)))
			s.Open(n.Epoch, n.Block, text(int64(i+1)))
			s.Seal(n.Epoch, n.Block, text(int64(i + 1))[:255])
			once(t, s)
		}
	}
}

// P10.2: blocks that are unlike in a byte alone, at each place, are twice, also of the nonce of noughts.
func TestUnlikeBlocksAreTwice(t *testing.T) {
	for k := range 256 {
		s, n := made(t, 16), seal.Nonce{Epoch: uint64(k / 4), Block: k % 4}
		p := text(5)
		puts(t, s, n, p)
		p[k] ^= 1 << (k % 8)
		puts(t, s, n, p)
		twice(t, s, n)
	}
}

// P10.2: the first nonce that was twice is told, not the least one, nor the last one.
func TestTwiceTellsTheFirstOne(t *testing.T) {
	s := made(t, 16)
	low, mid, high := seal.Nonce{Epoch: 1, Block: 5}, seal.Nonce{Epoch: 2, Block: 3}, seal.Nonce{Epoch: 3, Block: 1}
	for _, n := range []seal.Nonce{high, low, mid} {
		puts(t, s, n, text(1))
	}
	once(t, s)
	puts(t, s, mid, text(2))
	twice(t, s, mid)
	for _, n := range []seal.Nonce{low, high, mid, {Epoch: 9}, {Epoch: 9}} {
		puts(t, s, n, text(3))
		puts(t, s, n, text(1))
		twice(t, s, mid)
	}
	used(t, s, low, mid, high, seal.Nonce{Epoch: 9})
}

// P10.2: a Blank is a Seal of noughts, whichever comes first.
func TestBlankBesideSeal(t *testing.T) {
	n := seal.Nonce{Epoch: 8, Block: 2}
	blank := func(s *seal.Sealer) {
		if _, e := s.Blank(8, 2); e != api.OK {
			t.Fatal(e)
		}
	}
	s := made(t, 16)
	blank(s)
	blank(s)
	puts(t, s, n, make([]byte, 256))
	once(t, s)
	puts(t, s, n, text(1))
	twice(t, s, n)
	s = made(t, 16)
	puts(t, s, n, text(1))
	once(t, s)
	blank(s)
	twice(t, s, n)
	used(t, s, n)
}

// P10.2, P10.4, against the words: what was sealed, as a list that is gone through.
func TestSealerAgainstTheModel(t *testing.T) {
	for seed := range 60 {
		r := rand.New(rand.NewSource(int64(seed)))
		s, k := made(t, 16), key(16, 1)
		texts, first, found := map[seal.Nonce][]byte{}, seal.Nonce{}, false
		for range 40 {
			n, p := seal.Nonce{Epoch: uint64(r.Intn(4)), Block: r.Intn(4)}, text(int64(r.Intn(20)/19))
			switch r.Intn(5) {
			case 0:
				b, e := s.Open(n.Epoch, n.Block, p)
				does(t, "Open", b, e, sealed(t, k, n, p))
				continue
			case 1:
				p = make([]byte, 256)
				b, e := s.Blank(n.Epoch, n.Block)
				does(t, "Blank", b, e, sealed(t, k, n, p))
			default:
				does(t, "Seal", puts(t, s, n, p), api.OK, sealed(t, k, n, p))
			}
			if was, ok := texts[n]; ok && !found && !bytes.Equal(was, p) {
				first, found = n, true
			}
			texts[n] = p
			if got, ok := s.Twice(); got != first || ok != found {
				t.Fatalf("seed %d: %v twice: %v; not %v, %v", seed, got, ok, first, found)
			}
			if len(s.Used()) != len(texts) {
				t.Fatalf("seed %d: %v are used, not %d", seed, s.Used(), len(texts))
			}
		}
	}
}

// Rules 4 and 5: blocks that are handed in are neither changed nor kept, and answers share no memory.
func TestListsAreNeitherChangedNorKept(t *testing.T) {
	s, n := made(t, 16), seal.Nonce{Epoch: 6, Block: 6}
	p := append(make([]byte, 0, 600), text(1)...)
	b := puts(t, s, n, p)
	if !bytes.Equal(p, text(1)) || !bytes.Equal(p[256:600], make([]byte, 344)) {
		t.Fatal("a block that was handed in was changed")
	}
	want := bytes.Clone(b)
	clear(p)
	if !bytes.Equal(b, want) {
		t.Fatal("the answer is what was handed in")
	}
	back, e := s.Open(6, 6, b)
	does(t, "Open", back, e, text(1))
	does(t, "what was opened", b, api.OK, want)
	clear(b)
	clear(back)
	does(t, "Seal again", puts(t, s, n, text(1)), api.OK, want)
	once(t, s)
	blank, _ := s.Blank(6, 7)
	kept := bytes.Clone(blank)
	clear(blank)
	blank, e = s.Blank(6, 7)
	does(t, "Blank again", blank, e, kept)
	once(t, s)
}

// Rule 4: what a caller writes into the nonces, or appends to them, is seen by no later answer.
func TestUsedIsACopy(t *testing.T) {
	s, one, two := made(t, 16), seal.Nonce{Epoch: 1}, seal.Nonce{Epoch: 2}
	puts(t, s, one, text(1))
	puts(t, s, two, text(1))
	l := s.Used()
	l[0].Epoch = 9
	_ = append(l[:1], seal.Nonce{Epoch: 10})
	used(t, s, one, two)
}

// Rule 5: a cipher that is handed in is neither changed nor kept.
func TestCipherIsNeitherChangedNorKept(t *testing.T) {
	c := cipher(t, key(16, 1))
	s, n := seal.New(c), seal.Nonce{Epoch: 3, Block: 4}
	want := sealed(t, key(16, 1), n, text(1))
	puts(t, s, n, text(1))
	if *c != *cipher(t, key(16, 1)) {
		t.Error("the cipher was changed")
	}
	*c = *cipher(t, key(32, 2))
	does(t, "Seal", puts(t, s, n, text(1)), api.OK, want)
	once(t, s)
}

// Rule 6: sealers of one cipher know nothing of each other.
func TestSealersAreApart(t *testing.T) {
	c := cipher(t, key(16, 1))
	one, two, n := seal.New(c), seal.New(c), seal.Nonce{Epoch: 1, Block: 2}
	puts(t, one, n, text(1))
	used(t, two)
	puts(t, two, n, text(2))
	once(t, one)
	once(t, two)
	puts(t, two, n, text(1))
	once(t, one)
	twice(t, two, n)
	b := puts(t, one, n, text(1))
	got, e := two.Open(1, 2, b)
	does(t, "Open by another one", got, e, text(1))
}

// P10.1, P10.2, P1: nil ciphers and sealers, and a sealer that New did not make; ErrNil comes first.
func TestNil(t *testing.T) {
	if seal.New(nil) != nil {
		t.Error("New of a nil cipher")
	}
	for _, s := range []*seal.Sealer{nil, {}} {
		for _, k := range append(beside(), 0, 1, 65535) {
			for _, size := range []int{0, 255, 256, 257} {
				b, e := s.Seal(1, k, make([]byte, size))
				refuses(t, "Seal", b, e, api.ErrNil)
				b, e = s.Open(math.MaxUint64, k, make([]byte, size))
				refuses(t, "Open", b, e, api.ErrNil)
			}
			b, e := s.Blank(0, k)
			refuses(t, "Blank", b, e, api.ErrNil)
		}
		used(t, s)
		once(t, s)
	}
}

// P1: a cipher of no key, whose stream has noughts (layers 5, 6), is a cipher.
func TestCipherOfNoKey(t *testing.T) {
	s, n := seal.New(&aes.Cipher{}), seal.Nonce{Epoch: 1, Block: 1}
	does(t, "Seal", puts(t, s, n, text(1)), api.OK, text(1))
	b, e := s.Open(1, 1, text(1))
	does(t, "Open", b, e, text(1))
	used(t, s, n)
}
