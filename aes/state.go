package aes

import "garderobe/gf"

// column is four bytes: a column of a state, or a word of the schedule.
type column [4]byte

// through is the column with each byte put through a box, one way or the other.
func (c column) through(box func(byte) byte) column {
	for k, b := range c {
		c[k] = box(b)
	}
	return c
}

// turned is the column turned by one: the first byte becomes the last one.
func (c column) turned() column { return column{c[1], c[2], c[3], c[0]} }

// plus is c and d by exclusive or.
func (c column) plus(d column) column {
	for k, b := range d {
		c[k] ^= b
	}
	return c
}

// state is what goes through the rounds: four columns.
type state [4]column

// columns is the state of sixteen bytes; bytes are those of a state.
func columns(p [16]byte) state {
	var s state
	for k, b := range p {
		s[k/4][k%4] = b
	}
	return s
}

func (s state) bytes() [16]byte {
	var p [16]byte
	for k := range p {
		p[k] = s[k/4][k%4]
	}
	return p
}

// round is what the steps of a round need beside the state.
type round struct {
	box *gf.Box
	key *state
}

// step is a step of a round, or its way back.
type step func(s *state, r round)

// do does steps of one round, one behind the other.
func (s *state) do(r round, steps ...step) {
	for _, next := range steps {
		next(s, r)
	}
}

func (s *state) add(r round) {
	for k, c := range r.key {
		s[k] = s[k].plus(c)
	}
}

func (s *state) sub(r round) {
	for k, c := range s {
		s[k] = c.through(r.box.Sub)
	}
}

func (s *state) unsub(r round) {
	for k, c := range s {
		s[k] = c.through(r.box.Back)
	}
}

// Row number r is turned by r columns; three times as many more are the way back.
func (s *state) shift(round)   { s.shiftBy(1) }
func (s *state) unshift(round) { s.shiftBy(3) }

// shiftBy makes byte r of each column what stood by times r columns behind it.
func (s *state) shiftBy(by int) {
	was := *s
	for c := range s {
		for r := range s[c] {
			s[c][r] = was[(c+by*r)%4][r]
		}
	}
}

func (s *state) mix(round) {
	for k, c := range s {
		s[k] = gf.Mix(c)
	}
}

func (s *state) unmix(round) {
	for k, c := range s {
		s[k] = gf.Unmix(c)
	}
}
