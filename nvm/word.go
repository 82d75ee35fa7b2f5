package nvm

import "garderobe/api"

// word is bytes that last together: as they last, and as they are read.
type word struct {
	lasts, now      [api.Word]byte
	pending, marked bool
}

// line is words that are flushed together.
type line [api.Line / api.Word]word

// store puts bytes into the word, from one of its own on, as many as it has room for: so many it answers.
func (w *word) store(from int, b []byte) int {
	w.pending, w.marked = true, false
	return copy(w.now[from:], b)
}

// tamper puts bytes as store does, but so that they last, and turns no mark.
func (w *word) tamper(from int, b []byte) int {
	copy(w.lasts[from:], b)
	return copy(w.now[from:], b)
}

// mark is what a flush does.
func (w *word) mark() { w.marked = w.pending }

// fence makes the word last, if it is marked.
func (w *word) fence() {
	if w.marked {
		w.keep()
	}
}

// keep and lose are what a pending word may become: what it is to be, or what it was.
func (w *word) keep() { *w = word{lasts: w.now, now: w.now} }
func (w *word) lose() { *w = word{lasts: w.lasts, now: w.lasts} }
