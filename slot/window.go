package slot

import (
	"garderobe/class"
	"garderobe/word"
)

const (
	sizeBytes   = 2                       // bytes that tell how many an object has
	serialBytes = 6                       // bytes of its serial
	head        = sizeBytes + serialBytes // bytes ahead of the object
)

// window is a slot: a piece of its page's bytes, whose capacity ends with it, so that no slot reaches into the next one.
type window []byte

// cut is all slots of a page of class c, and the bytes behind the last one.
func cut(p []byte, c int) ([]window, []byte) {
	l, end := make([]window, class.Slots(c)), 0
	for k := range l {
		at, n, _ := class.Place(c, k)
		end = at + n
		l[k] = p[at:end:end]
	}
	return l, p[end:]
}

// size is how many bytes the slot says that its object has.
func (w window) size() int { return int(word.Get(w[:sizeBytes])) }

// serial is its object's.
func (w window) serial() uint64 { return word.Get(w[sizeBytes:head]) }

// free tells whether there is no object in the slot.
func (w window) free() bool { return word.Zero(w[:head]) }

// holds tells whether an object in the slot may have n bytes.
func (w window) holds(n int) bool { return 1 <= n && n <= len(w)-head }

// broken tells whether the slot may not be: neither free without a trace, nor an object's with noughts behind it.
func (w window) broken() bool {
	if w.free() {
		return !word.Zero(w)
	}
	n := w.size()
	return !w.holds(n) || !serves(w.serial()) || !word.Zero(w[head+n:])
}

// object is the bytes of the slot's object.
func (w window) object() []byte {
	end := head + w.size()
	return w[head:end:end]
}

// name writes what stands ahead of the object.
func (w window) name(serial uint64, n int) {
	copy(w[:sizeBytes], word.Put(sizeBytes, uint64(n)))
	copy(w[sizeBytes:head], word.Put(serialBytes, serial))
}

// resize leaves the first n bytes of the object as they are; behind it there are noughts already, if it was shorter.
func (w window) resize(n int) {
	w.name(w.serial(), n)
	clear(w[head+n:])
}

// serves tells whether an object may have a serial.
func serves(serial uint64) bool { return 1 <= serial && serial <= MaxSerial }
