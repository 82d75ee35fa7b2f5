package sha_test

import (
	"bytes"
	"crypto/sha256"
	"encoding/binary"
	"encoding/hex"
	"math"
	"math/big"
	"math/rand"
	"testing"

	"garderobe/api"
	"garderobe/sha"
)

// primes are the first 64, as a sieve tells them.
func primes() []int {
	var l []int
	var out [400]bool
	for n := 2; n < len(out); n++ {
		if out[n] {
			continue
		}
		l = append(l, n)
		for m := n * n; m < len(out); m += n {
			out[m] = true
		}
	}
	return l[:64]
}

// beside are numbers that no prime and no word has.
func beside() []int {
	return []int{-1, -2, 64, 65, 1 << 31, math.MaxInt, math.MinInt}
}

// text is n bytes in which a piece that is lost, or stands elsewhere, is seen.
func text(n int) []byte {
	b := make([]byte, n)
	rand.New(rand.NewSource(int64(n))).Read(b)
	return b
}

// P3.1
func TestPrimes(t *testing.T) {
	for k, want := range primes() {
		if got := sha.Prime(k); got != want {
			t.Errorf("Prime(%d) is %d, not %d", k, got, want)
		}
	}
	for _, k := range beside() {
		if got := sha.Prime(k); got != 0 {
			t.Errorf("Prime(%d) is %d", k, got)
		}
	}
}

// fits tells whether w is the first 32 bits behind the point of root number n of p: whether, with the root's whole
// part ahead, it is at most that root, and one more is above it.
func fits(w uint32, n, p int) bool {
	whole := int64(1)
	for new(big.Int).Exp(big.NewInt(whole+1), big.NewInt(int64(n)), nil).Cmp(big.NewInt(int64(p))) <= 0 {
		whole++
	}
	r := big.NewInt(whole<<32 | int64(w))
	most := new(big.Int).Lsh(big.NewInt(int64(p)), uint(32*n))
	e := big.NewInt(int64(n))
	low := new(big.Int).Exp(r, e, nil)
	high := new(big.Int).Exp(r.Add(r, big.NewInt(1)), e, nil)
	return low.Cmp(most) <= 0 && high.Cmp(most) > 0
}

// P3.1
func TestWordsOfTheTableAreOfTheRootsOfPrimes(t *testing.T) {
	m := sha.Make()
	for k, p := range primes() {
		if w := m.Word(k); !fits(w, 3, p) {
			t.Errorf("Word(%d) is %08X", k, w)
		}
		if w := m.First(k); k < 8 && !fits(w, 2, p) {
			t.Errorf("First(%d) is %08X", k, w)
		} else if k >= 8 && w != 0 {
			t.Errorf("First(%d) is %08X", k, w)
		}
	}
	for _, k := range beside() {
		if m.Word(k) != 0 || m.First(k) != 0 {
			t.Errorf("there is no word number %d", k)
		}
	}
}

// P3.1, the example, and words at the ends.
func TestKnownWords(t *testing.T) {
	m := sha.Make()
	if m.Word(0) != 0x428A2F98 || m.Word(1) != 0x71374491 || m.Word(62) != 0xBEF9A3F7 || m.Word(63) != 0xC67178F2 {
		t.Error("words of the table")
	}
	if m.First(0) != 0x6A09E667 || m.First(1) != 0xBB67AE85 || m.First(7) != 0x5BE0CD19 {
		t.Error("first words")
	}
}

// padding is what stands behind n bytes, by the words: a byte at a time.
func padding(n int) []byte {
	b := []byte{0x80}
	for (n+len(b))%64 != 56 {
		b = append(b, 0)
	}
	return binary.BigEndian.AppendUint64(b, uint64(n)*8)
}

// P3.1
func TestPad(t *testing.T) {
	l := []int{1 << 20, 1<<31 - 1, 1 << 31, 1 << 32, 1<<40 - 1, 1 << 40, 1<<40 - 8, 1<<40 - 9}
	for n := range 300 {
		l = append(l, n)
	}
	for _, n := range l {
		if got := sha.Pad(n); !bytes.Equal(got, padding(n)) {
			t.Errorf("Pad(%d) is % x", n, got)
		}
	}
	for _, n := range []int{-1, -64, math.MinInt, 1<<40 + 1, 1 << 41, 1 << 61, math.MaxInt} {
		if got := sha.Pad(n); len(got) != 0 {
			t.Errorf("Pad(%d) is % x", n, got)
		}
	}
}

// P3.4
func TestPadEndsABlockAndTellsHowMany(t *testing.T) {
	seen := map[uint64]int{}
	for n := range 2000 {
		b := sha.Pad(n)
		if (n+len(b))%64 != 0 || len(b) < 9 || len(b) > 72 {
			t.Fatalf("%d bytes stand behind %d", len(b), n)
		}
		end := binary.BigEndian.Uint64(b[len(b)-8:])
		if m, ok := seen[end]; ok {
			t.Fatalf("%d and %d have one end", m, n)
		}
		seen[end] = n
	}
}

// P3.2: sums that are printed beside SHA-256.
func TestSumsOfKnownTexts(t *testing.T) {
	m := sha.Make()
	rows := [][2]string{
		{"", "e3b0c44298fc1c149afbf4c8996fb92427ae41e4649b934ca495991b7852b855"},
		{"abc", "ba7816bf8f01cfea414140de5dae2223b00361a396177a9cb410ff61f20015ad"},
		{"abcdbcdecdefdefgefghfghighijhijkijkljklmklmnlmnomnopnopq",
			"248d6a61d20638b8e5c026930c3e6039a33ce45964ff2167f6ecedd419db06c1"},
		{"abcdefghbcdefghicdefghijdefghijkefghijklfghijklmghijklmnhijklmnoijklmnopjklmnopqklmnopqrlmnopqrsmnopqrstnopqrstu",
			"cf5b16a778af8380036ce59e7b0492370b249b11e8f07a51afac45037afee9d1"},
	}
	for _, r := range rows {
		d := m.Sum([]byte(r[0]))
		if got := hex.EncodeToString(d[:]); got != r[1] {
			t.Errorf("the sum of %q is %s", r[0], got)
		}
	}
	d := m.Sum(bytes.Repeat([]byte("a"), 1000000))
	if hex.EncodeToString(d[:]) != "cdc76e5c9914fb9281a1c7e284d73e67f1809a48a497200e046d39ccc7112cd0" {
		t.Error("a million a")
	}
}

// P3.2
func TestSumsOfAllLengths(t *testing.T) {
	m := sha.Make()
	for n := range 400 {
		b := text(n)
		if got := m.Sum(b); got != sha256.Sum256(b) {
			t.Errorf("the sum of %d bytes is %x", n, got)
		}
	}
	if m.Sum() != sha256.Sum256(nil) || m.Sum(nil) != m.Sum() || m.Sum(nil, []byte{}, nil) != m.Sum() {
		t.Error("the sum of nothing")
	}
}

// P3.3
func TestPiecesPlayNoPart(t *testing.T) {
	m := sha.Make()
	for _, n := range []int{0, 1, 55, 56, 63, 64, 65, 127, 128, 129, 200} {
		b := text(n)
		want := m.Sum(b)
		for i := range n + 1 {
			for j := i; j <= n; j += 1 + j%3 {
				h := sha.New(m)
				h.Write(b[:i])
				h.Write()
				h.Write(nil, b[i:j], nil, b[j:])
				if m.Sum(b[:i], b[i:j], b[j:]) != want || h.Sum() != want || h.Len() != n {
					t.Fatalf("%d bytes, cut at %d and %d", n, i, j)
				}
			}
		}
	}
}

// P3.2, P3.3: bytes one at a time, and long pieces.
func TestPiecesOfAllSizes(t *testing.T) {
	m, b := sha.Make(), text(5000)
	rnd := rand.New(rand.NewSource(4))
	for _, most := range []int{1, 2, 60, 64, 65, 130, 700} {
		h := sha.New(m)
		for at := 0; at < len(b); {
			n := min(len(b)-at, 1+rnd.Intn(most))
			h.Write(b[at : at+n])
			at += n
		}
		if h.Sum() != sha256.Sum256(b) || h.Len() != len(b) {
			t.Errorf("pieces of at most %d bytes", most)
		}
	}
}

// P3.2: a sum that was told stays, and grows on.
func TestSumStaysAndGrowsOn(t *testing.T) {
	m, b := sha.Make(), text(300)
	h := sha.New(m)
	for n := range 300 {
		want := api.Digest(sha256.Sum256(b[:n]))
		if h.Len() != n || h.Sum() != want || h.Sum() != want || h.Len() != n {
			t.Fatalf("behind %d bytes: %x, %d", n, h.Sum(), h.Len())
		}
		h.Write(b[n : n+1])
	}
	one, other := sha.New(m), sha.New(m)
	one.Write(b)
	if other.Len() != 0 || other.Sum() != sha256.Sum256(nil) {
		t.Error("a sum knows of another one")
	}
}

// P3.1, P3.2, P1
func TestNilObjects(t *testing.T) {
	var m *sha.Table
	var h *sha.Hash
	for _, k := range append(beside(), 0, 1, 7, 63) {
		if m.Word(k) != 0 || m.First(k) != 0 {
			t.Error("a word of a nil table", k)
		}
	}
	if m.Sum() != (api.Digest{}) || m.Sum([]byte("abc")) != (api.Digest{}) {
		t.Error("a sum of a nil table")
	}
	if sha.New(nil) != nil {
		t.Error("New of a nil table")
	}
	h.Write()
	h.Write(nil, []byte("abc"))
	if h.Sum() != (api.Digest{}) || h.Len() != 0 {
		t.Error("a nil hash")
	}
}

// P1: objects that no call made.
func TestObjectsThatNobodyMade(t *testing.T) {
	(&sha.Table{}).Sum([]byte("abc"))
	h := &sha.Hash{}
	h.Write([]byte("abc"))
	if h.Sum() != (api.Digest{}) || h.Len() != 0 {
		t.Error("a hash of no table")
	}
}

// Rules 4 and 5: what is handed in is neither changed nor kept.
func TestTextsAreNeitherChangedNorKept(t *testing.T) {
	m, b := sha.Make(), text(200)
	was := bytes.Clone(b)
	h := sha.New(m)
	h.Write(b[:10], b[10:75])
	m.Sum(b, b)
	if !bytes.Equal(b, was) {
		t.Fatal("a text was changed")
	}
	clear(b)
	h.Write(was[75:])
	if h.Sum() != sha256.Sum256(was) {
		t.Error("a text was kept")
	}
	clear(sha.Pad(3))
	if !bytes.Equal(sha.Pad(3), padding(3)) {
		t.Error("two answers share memory")
	}
}
