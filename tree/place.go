package tree

import (
	"garderobe/api"
	"garderobe/book"
	"garderobe/word"
)

// place is where a sum stands: on which level, and its number there.
type place struct{ level, i int }

// ahead tells whether p is reckoned ahead of o: what stands below comes first.
func (p place) ahead(o place) bool {
	if p.level != o.level {
		return p.level < o.level
	}
	return p.i < o.i
}

// above is the place whose sum is made of this one and the one beside it.
func (p place) above() place { return place{p.level + 1, p.i / 2} }

// beside is the number, on the same level, of the other one that the sum above is made of.
func (p place) beside() int { return p.i ^ 1 }

// right tells whether it is the second one of the two.
func (p place) right() bool { return p.i%2 == 1 }

// sum is what stands in a place above two sums.
func (p place) sum(b *book.Book, left, right api.Digest) api.Digest {
	return b.Sum(book.Node, word.Put(1, uint64(p.level)), word.Put(wide, uint64(p.i)), left[:], right[:])
}
