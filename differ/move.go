package differ

import (
	"garderobe/api"
	"garderobe/store"
)

// move is what is brought from one base to another one.
type move struct {
	from, to ground
	unlike   []int // the leaves that are brought
}

// fits tells why nothing can be brought: the bases' leaves are not those of one geometry.
func (m *move) fits() api.Errno {
	if m.from.G != m.to.G {
		return api.ErrArg
	}
	return api.OK
}

// compare finds out what is unlike.
func (m *move) compare() (e api.Errno) {
	m.unlike, _, e = Trees(m.from.Tree, m.to.Tree)
	return e
}

// put puts in what is unlike, and makes it last, if there is something.
func (m *move) put() api.Errno {
	if len(m.unlike) == 0 {
		return api.OK
	}
	for _, k := range m.unlike {
		if e := store.Put(m.to.Base, k, m.from.Blocks[k]); e != api.OK {
			return e
		}
	}
	return m.to.D.Fence()
}
