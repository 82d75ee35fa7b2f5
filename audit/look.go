package audit

import (
	"bytes"

	"garderobe/api"
	"garderobe/geom"
	"garderobe/store"
	"garderobe/verdict"
)

// look is a base, and the blocks of its device that were loaded so far, from the first one on.
type look struct {
	store.Base
	blocks [][]byte
}

// left is how many blocks are still to be loaded.
func (l *look) left() int { return geom.Total(l.G) - len(l.blocks) }

// block is one of the device's.
func (l *look) block(k int) ([]byte, api.Errno) { return l.D.Load(geom.Bytes(k), api.Block) }

// load loads the next block.
func (l *look) load() api.Errno {
	data, e := l.block(len(l.blocks))
	if e == api.OK {
		l.blocks = append(l.blocks, data)
	}
	return e
}

// found is what is found of the blocks, as the register stands now. That may write into those that are summed, so it has
// copies of them.
func (l *look) found() int {
	n := geom.Leaves(l.G)
	c := verdict.Case{Base: l.Base}
	for _, data := range l.blocks[:n] {
		c.Blocks = append(c.Blocks, bytes.Clone(data))
	}
	return c.Find(l.blocks[n:]...)
}
