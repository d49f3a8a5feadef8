package weigh

import (
	"iter"
	"math/bits"
)

// set is a set of states, a bit for each: the states at all positions of two
// long words are too many for anything larger. A set that is nil is empty.
type set []uint64

func setOf(states int, members ...int) set {
	s := make(set, (states+63)/64)
	for _, i := range members {
		s.add(i)
	}
	return s
}

func (s set) has(i int) bool {
	return i/64 < len(s) && s[i/64]>>(i%64)&1 == 1
}

func (s set) add(i int) {
	s[i/64] |= 1 << (i % 64)
}

// join adds the members of another set.
func (s set) join(t set) {
	for i, block := range t {
		s[i] |= block
	}
}

// meets reports whether another set has some of the members.
func (s set) meets(t set) bool {
	for i, block := range t {
		if s[i]&block != 0 {
			return true
		}
	}
	return false
}

func (s set) size() int {
	n := 0
	for _, block := range s {
		n += bits.OnesCount64(block)
	}
	return n
}

// all yields the members in increasing order.
func (s set) all() iter.Seq[int] {
	return func(yield func(i int) bool) {
		for i, block := range s {
			for ; block != 0; block &= block - 1 {
				if !yield(64*i + bits.TrailingZeros64(block)) {
					return
				}
			}
		}
	}
}
