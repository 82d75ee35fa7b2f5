package store

import (
	"garderobe/api"
	"garderobe/geom"
	"garderobe/steps"
)

// nowhere is a place that every device refuses.
const nowhere = -1

// Put writes a block of the device, and flushes it.
func Put(b Base, block int, data []byte) api.Errno { return put(b, place(block), data) }

// Scrub makes last noughts in so many blocks of the log.
func Scrub(b Base, n int) api.Errno {
	at := place(geom.LogAt(b.G, 0))
	if n < 0 || n > geom.Total(b.G)-geom.Leaves(b.G) {
		at, n = nowhere, 0
	}
	return steps.Till(func() api.Errno { return put(b, at, make([]byte, api.Block*n)) }, b.D.Fence)
}

// put stores bytes on the device, and flushes these.
func put(b Base, at int, data []byte) api.Errno {
	if e := b.D.Store(at, data); e != api.OK {
		return e
	}
	return b.D.Flush(at, len(data))
}

// place is where a block's bytes begin. Layer 7 answers 0 of what is no block: nothing is to be put there.
func place(block int) int {
	at := geom.Bytes(block)
	if at == 0 && block != 0 {
		return nowhere
	}
	return at
}
