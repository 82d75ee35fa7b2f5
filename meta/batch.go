package meta

import (
	"bytes"

	"garderobe/api"
	"garderobe/batch"
	"garderobe/geom"
)

// Load is the Meta that the first sealed blocks have, as a batch has them.
func Load(b *batch.Batch, g api.Geo) (Meta, api.Errno) {
	if geom.Check(g) != api.OK {
		return Meta{}, api.ErrArg
	}
	blocks, e := load(many(g), b.Get)
	if e != api.OK {
		return Meta{}, e
	}
	return Parse(g, blocks...)
}

// load gets the first n blocks, up to the first error.
func load(n int, get func(k int) ([]byte, api.Errno)) ([][]byte, api.Errno) {
	l := make([][]byte, n)
	for k := range l {
		data, e := get(k)
		if e != api.OK {
			return nil, e
		}
		l[k] = data
	}
	return l, api.OK
}

// Save puts into a batch those blocks of a Meta that it has otherwise, up to the first error.
func Save(b *batch.Batch, g api.Geo, m Meta) api.Errno {
	blocks, e := Blocks(g, m)
	if e != api.OK {
		return e
	}
	for k, data := range blocks {
		if e := renew(k, data, b.Get, b.Put); e != api.OK {
			return e
		}
	}
	return api.OK
}

// renew puts a block in place of one that is got, if that is another one.
func renew(k int, data []byte, get func(k int) ([]byte, api.Errno), put func(k int, data []byte) api.Errno) api.Errno {
	was, e := get(k)
	if e != api.OK || bytes.Equal(was, data) {
		return e
	}
	return put(k, data)
}
