package geom

import (
	"iter"

	"garderobe/api"
)

// Kinds of blocks.
const (
	none = iota
	super
	epoch
	sealed
	log
)

// kinds are those that there are, as they stand behind one another on the device.
var kinds = [...]int{super, epoch, sealed, log}

// plan is a geometry that may be, with how many it has of each thing.
type plan api.Geo

func (p plan) pages() int  { return p.Pages }
func (p plan) maps() int   { return filled(p.Pages, perMap) }
func (p plan) supers() int { return 1 }
func (p plan) epochs() int { return filled(p.sealed(), perBlock) }
func (p plan) sealed() int { return 1 + p.maps() + p.Pages }
func (p plan) logs() int   { return 1 + p.Tx }
func (p plan) leaves() int { return p.supers() + p.epochs() + p.sealed() }
func (p plan) total() int  { return p.leaves() + p.logs() }

// filled is how many blocks n things take, so many in each.
func filled(n, each int) int { return (n + each - 1) / each }

// count is how many of a thing a geometry has: none, if it may not be.
func count(g api.Geo, many func(plan) int) int {
	if Check(g) != api.OK {
		return 0
	}
	return many(plan(g))
}

// steps are those of a walk: how many blocks of each kind it goes through.
func steps() [log + 1]func(plan) int {
	return [...]func(plan) int{super: plan.supers, epoch: plan.epochs, sealed: plan.sealed, log: plan.logs}
}

// walk goes through the blocks of the device, from the first one on: the place of each, and what it is.
func walk(g api.Geo) iter.Seq2[int, Part] {
	return func(yield func(int, Part) bool) {
		many, at := steps(), 0
		for _, kind := range kinds {
			for k := range count(g, many[kind]) {
				if !yield(at, Part{kind, k}) {
					return
				}
				at++
			}
		}
	}
}

// find is where a part stands on the device: -1, if there is no such part.
func find(g api.Geo, want Part) int {
	for at, part := range walk(g) {
		if part == want {
			return at
		}
	}
	return -1
}
