package differ

import (
	"garderobe/api"
	"garderobe/store"
	"garderobe/verdict"
)

// ground is the leaves of a base, as they stand: none till they are loaded, no tree of them till they are summed.
type ground struct{ verdict.Case }

// of is that of a base.
func of(b store.Base) ground { return ground{verdict.Case{Base: b}} }

// load loads the leaves, if the base may be.
func (g *ground) load() api.Errno {
	if e := verdict.Refuses(g.Base); e != api.OK {
		return e
	}
	return g.LoadLeaves()
}
