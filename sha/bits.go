package sha

import "math/bits"

// bits32 is a word: its sums go round.
type bits32 uint32

// turned is the word turned to the right by k bits.
func (x bits32) turned(k int) bits32 { return bits32(bits.RotateLeft32(uint32(x), -k)) }

// s0 and s1 are what a chunk's words are spread by.
func (x bits32) s0() bits32 { return x.turned(7) ^ x.turned(18) ^ x>>3 }
func (x bits32) s1() bits32 { return x.turned(17) ^ x.turned(19) ^ x>>10 }

// near and far are what a round takes of a and of e.
func (x bits32) near() bits32 { return x.turned(2) ^ x.turned(13) ^ x.turned(22) }
func (x bits32) far() bits32  { return x.turned(6) ^ x.turned(11) ^ x.turned(25) }

// choose has y's bits where x has ones, z's elsewhere.
func (x bits32) choose(y, z bits32) bits32 { return x&y ^ ^x&z }

// most has the bits that two at least of the three have.
func (x bits32) most(y, z bits32) bits32 { return x&y ^ x&z ^ y&z }
