package mend

import (
	"garderobe/api"
	"garderobe/geom"
	"garderobe/logf"
	"garderobe/steps"
	"garderobe/store"
	"garderobe/super"
)

const perBlock = api.Block / 8 // epochs in a block

// found is what is found of a base.
type found struct {
	leaves
	log  [][]byte
	kind int
}

// find puts together what is found, step by step.
func find(b store.Base) (*found, api.Errno) {
	f := &found{leaves: leaves{Base: b}}
	e := steps.Till(f.loadLeaves, f.loadLog, f.readEpochs, f.judge)
	return f, e
}

// loadLeaves loads the blocks that are summed.
func (f *found) loadLeaves() (e api.Errno) {
	f.blocks, e = f.load(0, geom.Leaves(f.G))
	return e
}

// loadLog loads the blocks of the log, which stand behind them.
func (f *found) loadLog() (e api.Errno) {
	f.log, e = f.load(geom.LogAt(f.G, 0), logs(f.G))
	return e
}

// load loads so many blocks, from the first one on.
func (f *found) load(first, n int) ([][]byte, api.Errno) {
	l := make([][]byte, n)
	for k := range l {
		data, e := f.D.Load(geom.Bytes(first+k), api.Block)
		if e != api.OK {
			return nil, e
		}
		l[k] = data
	}
	return l, api.OK
}

// readEpochs reads what the epoch blocks tell.
func (f *found) readEpochs() (e api.Errno) {
	f.epochs, e = super.Epochs(f.G, f.blocks[geom.EpochAt(f.G, 0):geom.SealedAt(f.G, 0)]...)
	return e
}

// judge tells of what kind all that is: a log is asked only if what stands there is not as it should.
func (f *found) judge() api.Errno {
	f.kind = Wrong
	switch {
	case !f.ours():
	case f.trusted():
		f.kind = Whole
	case f.redo() && f.trusted():
		f.kind = Redone
	}
	return api.OK
}

// ours tells whether the first block is the super of the geometry.
func (f *found) ours() bool {
	g, e := super.Parse(f.blocks[0])
	return e == api.OK && g == f.G
}

// trusted tells whether the blocks have the root that the register holds.
func (f *found) trusted() bool {
	return f.sum() == api.OK && f.tree.Root() == f.T.Read().Root
}

// redo puts in the blocks of the log, if it is one of the register's count.
func (f *found) redo() bool {
	log, e := logf.Parse(f.G, f.log...)
	if e != api.OK || log.Count != f.T.Read().Count {
		return false
	}
	for _, x := range log.L {
		f.epochs[x.K] = log.Count
		copy(f.blocks[geom.SealedAt(f.G, x.K)], x.Data)
	}
	return f.redoEpochs(log.L) == api.OK
}

// redoEpochs puts in the epoch blocks of the entries of a log.
func (f *found) redoEpochs(l []logf.Entry) api.Errno {
	for _, x := range l {
		k := x.K / perBlock
		data, e := super.Block(f.G, k, f.epochs)
		if e != api.OK {
			return e
		}
		copy(f.blocks[geom.EpochAt(f.G, k)], data)
	}
	return api.OK
}
