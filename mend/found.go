package mend

import (
	"garderobe/api"
	"garderobe/geom"
	"garderobe/steps"
	"garderobe/store"
)

// found is what is found of a base.
type found struct {
	leaves
	log  [][]byte
	kind int
}

// find puts together what is found, step by step.
func find(b store.Base) (*found, api.Errno) {
	f := &found{leaves: of(b)}
	e := steps.Till(f.LoadLeaves, f.loadLog, f.judge)
	return f, e
}

// loadLog loads the blocks of the log, which stand behind them.
func (f *found) loadLog() (e api.Errno) {
	f.log, e = f.Load(geom.LogAt(f.G, 0), logs(f.G))
	return e
}

// judge tells of what kind all that is.
func (f *found) judge() api.Errno {
	f.kind = f.Find(f.log...)
	return api.OK
}
