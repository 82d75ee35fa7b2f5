package book_test

import (
	"bytes"
	"crypto/sha256"
	"encoding/binary"
	"testing"

	"garderobe/api"
	"garderobe/book"
	"garderobe/sha"
)

func sumOf(kind byte, text string) api.Digest {
	return sha256.Sum256(append([]byte{kind}, text...))
}

// P4.1
func TestSumIsThatOfTheKindAndTheParts(t *testing.T) {
	b := book.New(sha.Make())
	for _, kind := range []byte{book.Leaf, book.Node, book.Root, book.Note, 4, 255} {
		for _, s := range []string{"", "a", "ab", string(bytes.Repeat([]byte("xyz"), 100))} {
			for cut := range len(s) + 1 {
				if got := b.Sum(kind, []byte(s[:cut]), nil, []byte(s[cut:])); got != sumOf(kind, s) {
					t.Fatalf("kind %d, %d bytes cut at %d: %x", kind, len(s), cut, got)
				}
			}
		}
		if b.Sum(kind) != sumOf(kind, "") {
			t.Error("no parts")
		}
	}
	if book.Leaf != 0 || book.Node != 1 || book.Root != 2 || book.Note != 3 || book.Most != 16384 {
		t.Error("constants")
	}
}

// P4.1, the example: a text is kept once, however it is cut.
func TestTextsAreKeptOnce(t *testing.T) {
	b := book.New(sha.Make())
	rows := []struct {
		kind  byte
		parts []string
		n     int
	}{
		{0, []string{"ab"}, 1},
		{0, []string{"a", "b"}, 1},
		{0, []string{"ab", ""}, 1},
		{1, []string{"ab"}, 2},
		{0, nil, 3},
		{0, []string{""}, 3},
		{0, []string{"a"}, 4},
		{0, []string{"\x00"}, 5},
		{0, []string{"ba"}, 6},
		{1, []string{"b", "", "a"}, 7},
		{0, []string{"ab"}, 7},
	}
	for k, r := range rows {
		var parts [][]byte
		for _, p := range r.parts {
			parts = append(parts, []byte(p))
		}
		b.Sum(r.kind, parts...)
		if b.Len() != r.n {
			t.Errorf("behind row %d: %d", k, b.Len())
		}
	}
	noClash(t, b)
}

func noClash(t *testing.T, b *book.Book) {
	t.Helper()
	if x, y, ok := b.Clash(); ok || len(x) != 0 || len(y) != 0 {
		t.Errorf("a clash of % x and % x", x, y)
	}
}

// P4.1, P4.2
func TestEmptyBook(t *testing.T) {
	b := book.New(sha.Make())
	if b.Len() != 0 {
		t.Error("an empty book keeps", b.Len())
	}
	noClash(t, b)
}

// P4.1, P4.4: a book is full with Most texts, and sums on.
func TestBookKeepsAtMostMost(t *testing.T) {
	b, sums := book.New(sha.Make()), map[api.Digest]int{}
	for k := range book.Most + 50 {
		text := binary.LittleEndian.AppendUint32(nil, uint32(k))
		d := b.Sum(book.Note, text)
		if d != sumOf(book.Note, string(text)) {
			t.Fatal("a sum of", k)
		}
		if b.Len() != min(k+1, book.Most) {
			t.Fatalf("behind %d texts %d are kept", k+1, b.Len())
		}
		sums[d]++
		b.Sum(book.Note, text)
	}
	b.Sum(book.Note, []byte{0, 0, 0, 0})
	if b.Len() != book.Most || len(sums) != book.Most+50 {
		t.Error(b.Len(), len(sums))
	}
	noClash(t, b)
}

// P4.1, P4.2, P1
func TestNilBook(t *testing.T) {
	if book.New(nil) != nil {
		t.Error("New of a nil table")
	}
	for _, b := range []*book.Book{nil, {}} {
		if b.Sum(0) != (api.Digest{}) || b.Sum(3, []byte("a"), nil) != (api.Digest{}) || b.Len() != 0 {
			t.Error("a book of nothing")
		}
		noClash(t, b)
	}
}

// Rules 4 and 5: parts are neither changed nor kept.
func TestPartsAreNeitherChangedNorKept(t *testing.T) {
	b := book.New(sha.Make())
	p := append(make([]byte, 0, 100), "abc"...)
	d := b.Sum(0, p)
	b.Sum(0, p, []byte("d"))
	if string(p) != "abc" || string(p[:4]) != "abc\x00" {
		t.Fatalf("a part was changed: %q", p[:4])
	}
	clear(p)
	if b.Sum(0, []byte("abc")) != d || b.Len() != 2 {
		t.Error("a part was kept", b.Len())
	}
	b.Sum(0, p)
	if b.Len() != 3 {
		t.Error("a text that is new", b.Len())
	}
	noClash(t, b)
}

// Rule 6: books know nothing of each other.
func TestBooksAreApart(t *testing.T) {
	m := sha.Make()
	one, other := book.New(m), book.New(m)
	one.Sum(0, []byte("a"))
	if other.Len() != 0 || one.Len() != 1 {
		t.Error("books of one table")
	}
}
