package verdict_test

import (
	"bytes"
	"testing"

	"garderobe/api"
	"garderobe/geom"
	"garderobe/verdict"
)

// Blocks are loaded as they stand, one behind the other; the leaves take the place of what was there.
func TestLoad(t *testing.T) {
	b, l := formatted(t)
	n := geom.Leaves(b.G)
	c := verdict.Case{Base: b}
	for first := range len(l) + 1 {
		for many := range len(l) - first + 1 {
			got, e := c.Load(first, many)
			if e != api.OK || !alike(got, l[first:first+many]) {
				t.Errorf("%d from %d on: error %d", many, first, e)
			}
		}
		if got, e := c.Load(first, len(l)-first+1); e != api.ErrRange || got != nil {
			t.Errorf("beyond the end from %d on: error %d", first, e)
		}
	}
	for range 2 {
		if e := c.LoadLeaves(); e != api.OK || !alike(c.Blocks, l[:n]) {
			t.Error("LoadLeaves", e)
		}
		clear(c.Blocks[0])
	}
	b.D.Tamper(700, []byte{1, 2, 3})
	copy(l[2][700-512:], []byte{1, 2, 3})
	if e := c.LoadLeaves(); e != api.OK || !alike(c.Blocks, l[:n]) {
		t.Error("as they stand", e)
	}
}

// With the power off nothing is loaded.
func TestLoadOff(t *testing.T) {
	b, _ := formatted(t)
	c := verdict.Case{Base: b}
	b.D.Crash()
	if got, e := c.Load(0, 1); e != api.ErrDown || got != nil {
		t.Error("Load", e)
	}
	if got, e := c.Load(0, 0); e != api.OK || len(got) != 0 {
		t.Error("of none", e)
	}
	if e := c.LoadLeaves(); e != api.ErrDown || c.Blocks != nil {
		t.Error("LoadLeaves", e)
	}
}

// alike tells whether two rows of blocks have the same bytes.
func alike(a, b [][]byte) bool {
	return len(a) == len(b) && bytes.Equal(bytes.Join(a, nil), bytes.Join(b, nil))
}
