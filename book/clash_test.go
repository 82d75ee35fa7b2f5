package book

import (
	"bytes"
	"testing"

	"garderobe/api"
	"garderobe/sha"
)

// narrow is a book whose sums are a text's last byte: only so two unlike texts of one sum can be had.
func narrow() *Book {
	b := New(sha.Make())
	b.sum = func(parts ...[]byte) api.Digest {
		all := bytes.Join(parts, nil)
		return api.Digest{all[len(all)-1]}
	}
	return b
}

func shows(t *testing.T, b *Book, one, other string) {
	t.Helper()
	x, y, ok := b.Clash()
	if !ok || string(x) != one || string(y) != other {
		t.Errorf("a clash of %q and %q, %v; not of %q and %q", x, y, ok, one, other)
	}
}

// P4.2, P4.3
func TestClashShowsTheFirstOne(t *testing.T) {
	b := narrow()
	for _, s := range []string{"1x", "2y", "1x", "3z"} {
		b.Sum(0, []byte(s))
	}
	if _, _, ok := b.Clash(); ok || b.Len() != 3 {
		t.Fatal("too soon", b.Len())
	}
	b.Sum(1, []byte("4"), []byte("y"))
	shows(t, b, "\x002y", "\x014y")
	for _, s := range []string{"5x", "6y", "2y", "1x"} {
		b.Sum(0, []byte(s))
		shows(t, b, "\x002y", "\x014y")
	}
}

// P4.1: what clashed is kept as any text is, and once.
func TestTextsOfOneSumAreKept(t *testing.T) {
	b := narrow()
	for k, s := range []string{"1x", "2x", "3x", "2x", "3x", "1x"} {
		b.Sum(0, []byte(s))
		if b.Len() != min(k+1, 3) {
			t.Errorf("behind text %d: %d", k, b.Len())
		}
	}
	shows(t, b, "\x001x", "\x002x")
}

// P4.2: a text that isn't kept, since the book is full, clashes; two that aren't kept do not.
func TestClashInAFullBook(t *testing.T) {
	b := narrow()
	b.Sum(0, []byte("1x"))
	b.n = Most
	b.Sum(0, []byte("1y"))
	b.Sum(0, []byte("2y"))
	if _, _, ok := b.Clash(); ok || b.Len() != Most {
		t.Fatal("neither was kept", b.Len())
	}
	b.Sum(0, []byte("2x"))
	b.Sum(0, []byte("3x"))
	if b.Len() != Most {
		t.Error("a full book keeps", b.Len())
	}
	shows(t, b, "\x001x", "\x002x")
}

// Rule 4: what a caller writes into what was shown is seen by no later answer.
func TestWhatIsShownIsACopy(t *testing.T) {
	b := narrow()
	b.Sum(0, []byte("1x"))
	b.Sum(0, []byte("2x"))
	x, y, _ := b.Clash()
	clear(x)
	clear(y)
	shows(t, b, "\x001x", "\x002x")
	b.Sum(0, []byte("1x"))
	if b.Len() != 2 {
		t.Error("a kept text was changed", b.Len())
	}
}
