package pages_test

import (
	"bytes"
	"slices"
	"testing"

	"garderobe/api"
	"garderobe/pages"
)

// given is pages with one free at 0, slots at 1, an object at 2, and three free ones behind it.
func given() []pages.Page { return row(frees(1), []pages.Page{slots(3)}, great(300, 1), frees(3)) }

// changes are calls that answer pages.
func changes() map[string]func(l []pages.Page) ([]pages.Page, api.Errno) {
	return map[string]func(l []pages.Page) ([]pages.Page, api.Errno){
		"Take":      func(l []pages.Page) ([]pages.Page, api.Errno) { return pages.Take(l, 4, 500, 2) },
		"Give":      func(l []pages.Page) ([]pages.Page, api.Errno) { return pages.Give(l, 2) },
		"Turn":      func(l []pages.Page) ([]pages.Page, api.Errno) { return pages.Turn(l, 0, 5) },
		"Turn back": func(l []pages.Page) ([]pages.Page, api.Errno) { return pages.Turn(l, 1, -1) },
	}
}

// Rule 4: pages that are handed in are left as they are, so is what stands behind their end.
func TestPagesAreLeft(t *testing.T) {
	room := row(given(), slices.Repeat([]pages.Page{{Kind: 9, Serial: 9}}, 20))
	was := slices.Clone(room)
	l := room[:len(given())]
	for what, call := range changes() {
		if _, e := call(l); e != api.OK {
			t.Fatal(what, e)
		}
	}
	pages.Check(l)
	pages.Bytes(l)
	pages.Runs(l)
	pages.First(l, 2)
	pages.Take(l, 5, 700, 1) // refused: beyond the end
	pages.Take(l, 0, 300, 1) // refused: the second page is not free
	pages.Give(l, 3)
	pages.Turn(l, 2, -1)
	if !slices.Equal(room, was) {
		t.Error("what was handed in was changed")
	}
	b := append(block(l), 1, 2, 3)
	bytesWere := slices.Clone(b)
	pages.Parse(b[:256])
	if !bytes.Equal(b, bytesWere) {
		t.Error("Parse changed its block")
	}
}

// Rules 4 and 5: an answer shares no memory with what was handed in, nor with another answer, up to its capacity.
func TestAnswersAreCopies(t *testing.T) {
	for what, call := range changes() {
		l := given()
		a, _ := call(l)
		b, _ := call(l)
		want := slices.Clone(b)
		clear(l)
		for k := range a[:cap(a)] {
			a[:cap(a)][k] = pages.Page{Kind: 7}
		}
		if !slices.Equal(b, want) {
			t.Errorf("%s: an answer changed with what was handed in, or with another answer", what)
		}
		l = given()
		a, _ = call(l)
		clear(a[:cap(a)])
		if !slices.Equal(l, given()) {
			t.Errorf("%s: what is written into an answer is seen in what was handed in", what)
		}
		if again, e := call(given()); e != api.OK || !slices.Equal(again, want) {
			t.Errorf("%s: answers otherwise another time", what)
		}
	}
}

// Rules 4 and 5: so with blocks, with what is parsed of them, and with runs.
func TestBlocksAreCopies(t *testing.T) {
	l := given()
	a, _ := pages.Bytes(l)
	b, _ := pages.Bytes(l)
	clear(l)
	clear(a[:cap(a)])
	if !bytes.Equal(b, block(given())) {
		t.Error("Bytes shares its answers, or what it was given")
	}
	x, _ := pages.Parse(b)
	y, _ := pages.Parse(b)
	clear(b)
	clear(x[:cap(x)])
	if !slices.Equal(y, row(given(), frees(16-len(given())))) {
		t.Error("Parse shares its answers, or what it was given")
	}
	l = given()
	r, s := pages.Runs(l), pages.Runs(l)
	clear(r[:cap(r)])
	clear(l)
	if !slices.Equal(s, runs(given())) {
		t.Error("Runs shares its answers")
	}
}

// Rule 6: what a call answers hangs on its arguments alone.
func TestAgain(t *testing.T) {
	l := some(40, 11)
	b, _ := pages.Bytes(l[:16])
	at, ok := pages.First(l, 2)
	for seed := range 20 {
		other := some(30, int64(seed))
		pages.Take(other, 3, 300, 5)
		pages.Bytes(other[:16])
		if again, _ := pages.Bytes(l[:16]); !bytes.Equal(again, b) {
			t.Error("Bytes")
		}
		if k, there := pages.First(l, 2); k != at || there != ok {
			t.Error("First")
		}
	}
}
