package store

import (
	"garderobe/api"
	"garderobe/geom"
	"garderobe/logf"
	"garderobe/super"
	"garderobe/tree"
)

const perBlock = api.Block / 8 // epochs in a block

// change is a Commit under way: what the store has from the register's Set on, and what is put then.
type change struct {
	Base
	log    logf.Log
	epochs []uint64
	tree   *tree.Tree
	blocks []block // the sealed blocks, then their epoch blocks
}

// block is a block of the device, and what it is to have.
type block struct {
	at   int
	data []byte
}

// plan works out all that is put, ahead of the first act.
func (c *change) plan(l []logf.Entry) api.Errno {
	c.log.Count = c.T.Read().Count + 1
	if e := c.seal(l); e != api.OK {
		return e
	}
	c.addEpochs()
	_, e := c.tree.Set(c.leaves()...)
	return e
}

// seal hides the entries' bytes, one behind the other.
func (c *change) seal(l []logf.Entry) api.Errno {
	for _, x := range l {
		data, e := c.S.Seal(c.log.Count, x.K, x.Data)
		if e != api.OK {
			return e
		}
		c.log.L = append(c.log.L, logf.Entry{K: x.K, Data: data})
		c.blocks = append(c.blocks, block{geom.SealedAt(c.G, x.K), data})
	}
	return api.OK
}

// addEpochs puts the count in as the entries' epoch, and adds the epoch blocks of these, each once: as the entries'
// numbers rise, those of one block stand beside one another.
func (c *change) addEpochs() {
	for _, x := range c.log.L {
		c.epochs[x.K] = c.log.Count
	}
	last := -1
	for _, x := range c.log.L {
		if k := x.K / perBlock; k != last {
			data, _ := super.Block(c.G, k, c.epochs)
			c.blocks = append(c.blocks, block{geom.EpochAt(c.G, k), data})
			last = k
		}
	}
}

// leaves are the tree's of the blocks that are put.
func (c *change) leaves() []tree.Leaf {
	var l []tree.Leaf
	for _, x := range c.blocks {
		l = append(l, tree.Leaf{K: x.at, Sum: tree.Sum(c.B, x.at, x.data)})
	}
	return l
}

// putLog puts the log's blocks into the first ones of the log.
func (c *change) putLog() api.Errno {
	log, e := logf.Encode(c.G, c.log)
	if e != api.OK {
		return e
	}
	var l []block
	for k, data := range log {
		l = append(l, block{geom.LogAt(c.G, k), data})
	}
	return c.put(l)
}

// set is the moment at which the Commit counts.
func (c *change) set() api.Errno {
	return c.T.Set(api.Reg{Count: c.log.Count, Root: c.tree.Root()})
}

// putBlocks puts the blocks where they belong.
func (c *change) putBlocks() api.Errno { return c.put(c.blocks) }

// put puts blocks, one behind the other.
func (c *change) put(l []block) api.Errno {
	for _, x := range l {
		if e := Put(c.Base, x.at, x.data); e != api.OK {
			return e
		}
	}
	return api.OK
}

// scrub leaves nothing of the log.
func (c *change) scrub() api.Errno { return Scrub(c.Base, logf.Size(c.log)) }
