package proof

import (
	"math/bits"

	"garderobe/api"
	"garderobe/geom"
	"garderobe/word"
)

const narrow = 2 // bytes of the number of a block

// deep is how many sums a path has: as many as levels stand above the leaves.
func deep(g api.Geo) int { return bits.Len(uint(geom.Leaves(g) - 1)) }

// may tells whether there may be such a proof.
func may(g api.Geo, p Proof) bool {
	fits := func(x Part) bool { return len(x.Data) == api.Block && len(x.Path) == deep(g) }
	return geom.SealedAt(g, p.K) >= 0 && fits(p.Block) && fits(p.Epochs)
}

// size is how many bytes a proof has.
func size(g api.Geo) int { return narrow + 2*(api.Block+deep(g)*api.Hash) }

// both does something with each part, the block's first.
func both(p *Proof, do func(*Part)) {
	do(&p.Block)
	do(&p.Epochs)
}

// Bytes is a proof as bytes.
func Bytes(g api.Geo, p Proof) ([]byte, api.Errno) {
	if !may(g, p) {
		return nil, api.ErrArg
	}
	w := &writer{word.Put(narrow, uint64(p.K))}
	both(&p, w.put)
	return w.b, api.OK
}

// writer puts parts behind what is there.
type writer struct{ b []byte }

// put puts in the block, then the sums.
func (w *writer) put(x *Part) {
	w.b = append(w.b, x.Data...)
	for _, d := range x.Path {
		w.b = append(w.b, d[:]...)
	}
}

// Parse is the proof whose bytes b is. How many these are, and the number, tell whether there may be such a one.
func Parse(g api.Geo, b []byte) (Proof, api.Errno) {
	switch {
	case geom.Check(g) != api.OK:
		return Proof{}, api.ErrArg
	case len(b) != size(g):
		return Proof{}, api.ErrForm
	}
	r := &reader{word.Of(b), deep(g)}
	p := Proof{K: int(r.Num(narrow))}
	both(&p, r.take)
	if !may(g, p) {
		return Proof{}, api.ErrForm
	}
	return p, api.OK
}

// reader reads parts, one behind the other, of so many sums each.
type reader struct {
	*word.Row
	deep int
}

// take reads the block, then the sums.
func (r *reader) take(x *Part) {
	x.Data = r.Bytes(api.Block)
	x.Path = make([]api.Digest, r.deep)
	for k := range x.Path {
		copy(x.Path[k][:], r.Bytes(api.Hash))
	}
}
