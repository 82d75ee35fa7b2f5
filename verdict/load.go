package verdict

import (
	"garderobe/api"
	"garderobe/geom"
)

// Load is so many blocks of the device, from the first one on.
func (c *Case) Load(first, n int) ([][]byte, api.Errno) {
	l := make([][]byte, n)
	for k := range l {
		data, e := c.D.Load(geom.Bytes(first+k), api.Block)
		if e != api.OK {
			return nil, e
		}
		l[k] = data
	}
	return l, api.OK
}

// LoadLeaves loads the blocks that are summed.
func (c *Case) LoadLeaves() (e api.Errno) {
	c.Blocks, e = c.Load(0, geom.Leaves(c.G))
	return e
}
