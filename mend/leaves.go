package mend

import (
	"garderobe/api"
	"garderobe/geom"
	"garderobe/steps"
	"garderobe/store"
	"garderobe/super"
	"garderobe/verdict"
)

// leaves are the blocks of a base that are summed, as they stand, or are to stand.
type leaves struct{ verdict.Case }

// of are those of a base, none so far.
func of(b store.Base) leaves { return leaves{verdict.Case{Base: b}} }

// logs is how many blocks the log has.
func logs(g api.Geo) int { return geom.Total(g) - geom.Leaves(g) }

// blank makes the blocks those of a store of noughts, sealed with the count that comes next.
func (l *leaves) blank() api.Errno {
	l.Epochs = make([]uint64, geom.Sealed(l.G))
	for k := range l.Epochs {
		l.Epochs[k] = l.next()
	}
	return steps.Till(l.addSuper, l.addEpochs, l.addSealed, l.Sum)
}

// add adds a block, if it could be made.
func (l *leaves) add(data []byte, e api.Errno) api.Errno {
	if e == api.OK {
		l.Blocks = append(l.Blocks, data)
	}
	return e
}

// addSuper adds the geometry's block.
func (l *leaves) addSuper() api.Errno { return l.add(super.Bytes(l.G)) }

// addEpochs adds the blocks of the epochs.
func (l *leaves) addEpochs() api.Errno {
	for k := range geom.Epochs(l.G) {
		if e := l.add(super.Block(l.G, k, l.Epochs)); e != api.OK {
			return e
		}
	}
	return api.OK
}

// addSealed adds blocks of noughts, sealed with their epochs.
func (l *leaves) addSealed() api.Errno {
	for k, epoch := range l.Epochs {
		if e := l.add(l.S.Blank(epoch, k)); e != api.OK {
			return e
		}
	}
	return api.OK
}

// put puts all blocks, from the first one on.
func (l *leaves) put() api.Errno {
	for k, data := range l.Blocks {
		if e := store.Put(l.Base, k, data); e != api.OK {
			return e
		}
	}
	return api.OK
}

// scrub leaves nothing of the log.
func (l *leaves) scrub() api.Errno { return store.Scrub(l.Base, logs(l.G)) }

// next is the count that comes behind the register's.
func (l *leaves) next() uint64 { return l.T.Read().Count + 1 }

// keep sets the register to the next count, and the root that it has.
func (l *leaves) keep() api.Errno { return l.T.Set(api.Reg{Count: l.next(), Root: l.T.Read().Root}) }

// count sets the register to the next count, and the root of the tree.
func (l *leaves) count() api.Errno { return l.T.Set(api.Reg{Count: l.next(), Root: l.Tree.Root()}) }
