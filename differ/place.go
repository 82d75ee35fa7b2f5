package differ

// place is where a pair of sums stands: on which level of both trees, and its number there.
type place struct{ level, i int }

// ahead tells whether p is looked at ahead of o: what stands above comes first, then what stands to the left.
func (p place) ahead(o place) bool {
	if p.level != o.level {
		return p.level > o.level
	}
	return p.i < o.i
}

// below are the two places whose sums that of p is made of, the left one first.
func (p place) below() []place { return []place{{p.level - 1, 2 * p.i}, {p.level - 1, 2*p.i + 1}} }
