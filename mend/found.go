package mend

import (
	"garderobe/api"
	"garderobe/geom"
	"garderobe/steps"
	"garderobe/store"
)

// found is what is found of a base.
type found struct {
	leaves
	log  [][]byte
	kind int
}

// find puts together what is found, step by step.
func find(b store.Base) (*found, api.Errno) {
	f := &found{leaves: of(b)}
	e := steps.Till(f.loadLeaves, f.loadLog, f.judge)
	return f, e
}

// loadLeaves loads the blocks that are summed.
func (f *found) loadLeaves() (e api.Errno) {
	f.Blocks, e = f.load(0, geom.Leaves(f.G))
	return e
}

// loadLog loads the blocks of the log, which stand behind them.
func (f *found) loadLog() (e api.Errno) {
	f.log, e = f.load(geom.LogAt(f.G, 0), logs(f.G))
	return e
}

// load loads so many blocks, from the first one on.
func (f *found) load(first, n int) ([][]byte, api.Errno) {
	l := make([][]byte, n)
	for k := range l {
		data, e := f.D.Load(geom.Bytes(first+k), api.Block)
		if e != api.OK {
			return nil, e
		}
		l[k] = data
	}
	return l, api.OK
}

// judge tells of what kind all that is.
func (f *found) judge() api.Errno {
	f.kind = f.Find(f.log...)
	return api.OK
}
