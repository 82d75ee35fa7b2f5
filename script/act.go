package script

import (
	"garderobe/api"
	"garderobe/word"
)

const (
	mostNumber = 1<<16 - 1 // the greatest number of an act
	mostBytes  = 1 << 10   // bytes that one has at most
	wide       = 2         // bytes of a number
)

// beyond is an act without what its kind has, and whether there is such a kind.
func (a Act) beyond() (Act, bool) {
	switch a.Kind {
	case Format, Close, Begin, Commit, Abort, Stat, Check, On:
	case Open:
		a.Yes = false
	case Read:
		a.At = 0
		fallthrough
	case Realloc:
		a.Which = 0
		fallthrough
	case Alloc:
		a.N = 0
	case Set:
		a.Yes, a.K = false, 0
		fallthrough
	case Free, Size:
		a.Which = 0
	case Root:
		a.K = 0
	case Write:
		a.Which = 0
		fallthrough
	case Tamper:
		a.At = 0
		fallthrough
	case Crash:
		a.B = nil
	case Arm:
		a.N, a.B = 0, nil
	default:
		return Act{}, false
	}
	return a, true
}

// numbers are those that every act has, in the order in which they are written.
func (a Act) numbers() [4]int { return [...]int{a.Which, a.K, a.N, a.At} }

// fits tells whether numbers and bytes of an act are within their bounds.
func (a Act) fits() bool {
	for _, n := range a.numbers() {
		if n < 0 || n > mostNumber {
			return false
		}
	}
	return len(a.B) <= mostBytes
}

// head is what an act has beside its bytes.
type head struct {
	kind    int
	yes     bool
	numbers [4]int
}

func (a Act) head() head { return head{a.Kind, a.Yes, a.numbers()} }

// same tells whether all of two acts is the same.
func (a Act) same(o Act) bool { return a.head() == o.head() && word.Same(a.B, o.B) }

// like tells whether two acts are the same but for the bytes that they write.
func (a Act) like(o Act) bool {
	if a.Kind == Write && len(a.B) == len(o.B) {
		a.B = o.B
	}
	return a.same(o)
}

// bytes is an act that may be, as bytes.
func (a Act) bytes() []byte {
	out := []byte{byte(a.Kind), 0}
	if a.Yes {
		out[1] = 1
	}
	for _, n := range a.numbers() {
		out = append(out, word.Put(wide, uint64(n))...)
	}
	out = append(out, word.Put(wide, uint64(len(a.B)))...)
	return append(out, a.B...)
}

// next is the act whose bytes come next; false, if they are none that may be.
func next(r *word.Row) (Act, bool) {
	number := func() int { return int(r.Num(wide)) }
	kind, yes := r.Num(1), r.Num(1)
	a := Act{Kind: int(kind), Yes: yes == 1}
	a.Which, a.K, a.N, a.At = number(), number(), number(), number()
	if n := number(); n > 0 {
		a.B = r.Bytes(n)
	}
	return a, yes <= 1 && r.Err() == api.OK && May(a)
}
