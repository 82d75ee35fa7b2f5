// Package verdict loads the blocks of a base, sums those that are leaves, and tells what is found of them. No layer is named
// for it: the layers that look at a base as it stands share it.
package verdict

import (
	"garderobe/api"
	"garderobe/geom"
	"garderobe/logf"
	"garderobe/store"
	"garderobe/super"
	"garderobe/tree"
)

// What is found, by the numbers of layer 16.
const (
	Whole  = 1
	Redone = 2
	Wrong  = 3
)

const perBlock = api.Block / 8 // epochs in a block

// Case is the blocks of a base that are summed, and what is trusted of them.
type Case struct {
	store.Base
	Blocks [][]byte // from the first one of the device on
	Epochs []uint64
	Tree   *tree.Tree
}

// Refuses tells why a base may not be.
func Refuses(b store.Base) api.Errno {
	switch {
	case b.D == nil || b.T == nil || b.S == nil || b.B == nil:
		return api.ErrNil
	case geom.Check(b.G) != api.OK || b.D.Len() != geom.Bytes(geom.Total(b.G)):
		return api.ErrArg
	}
	return api.OK
}

// Sum makes the tree of the blocks.
func (c *Case) Sum() api.Errno {
	var sums []api.Digest
	for k, data := range c.Blocks {
		sums = append(sums, tree.Sum(c.B, k, data))
	}
	t, e := tree.New(c.B, sums...)
	c.Tree = t
	return e
}

// Find tells what is found of the blocks and those of the log, which is asked only if they are not as they should be. What
// it puts in is written into the blocks.
func (c *Case) Find(log ...[]byte) int {
	switch {
	case !c.ours() || !c.reads():
		return Wrong
	case c.trusted():
		return Whole
	case c.redo(log) && c.trusted():
		return Redone
	}
	return Wrong
}

// ours tells whether the first block is the super of the geometry, and there are as many as that one has.
func (c *Case) ours() bool {
	if len(c.Blocks) == 0 || len(c.Blocks) != geom.Leaves(c.G) {
		return false
	}
	g, e := super.Parse(c.Blocks[0])
	return e == api.OK && g == c.G
}

// reads reads what the epoch blocks tell; false, if they can't be read.
func (c *Case) reads() bool {
	l, e := super.Epochs(c.G, c.Blocks[geom.EpochAt(c.G, 0):geom.SealedAt(c.G, 0)]...)
	c.Epochs = l
	return e == api.OK
}

// trusted tells whether the blocks have the root that the register holds.
func (c *Case) trusted() bool {
	return c.Sum() == api.OK && c.Tree.Root() == c.T.Read().Root
}

// redo puts in the blocks of the log, if it is one of the register's count.
func (c *Case) redo(blocks [][]byte) bool {
	log, e := logf.Parse(c.G, blocks...)
	if e != api.OK || log.Count != c.T.Read().Count {
		return false
	}
	for _, x := range log.L {
		c.Epochs[x.K] = log.Count
		copy(c.Blocks[geom.SealedAt(c.G, x.K)], x.Data)
	}
	return c.redoEpochs(log.L) == api.OK
}

// redoEpochs puts in the epoch blocks of the entries of a log.
func (c *Case) redoEpochs(l []logf.Entry) api.Errno {
	for _, x := range l {
		k := x.K / perBlock
		data, e := super.Block(c.G, k, c.Epochs)
		if e != api.OK {
			return e
		}
		copy(c.Blocks[geom.EpochAt(c.G, k)], data)
	}
	return api.OK
}
