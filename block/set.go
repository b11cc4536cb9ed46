package block

import (
	"math/bits"

	"spring/limit"
)

const (
	wordBits = 64
	words    = (limit.MaxBlocks + wordBits - 1) / wordBits
)

// Set is which blocks a drop has, a bit each. It is an array, so that two
// sets can be compared by == and a set can be the key of a map.
type Set [words]uint64

// One answers the set of block n, from 0 to MaxBlocks - 1, alone.
func One(n int) Set {
	return Set{}.With(n)
}

// Has tells whether block n, from 0 to MaxBlocks - 1, is in the set.
func (s Set) Has(n int) bool {
	return s[n/wordBits]>>(n%wordBits)&1 == 1
}

// With answers the set with block n, from 0 to MaxBlocks - 1, in it.
func (s Set) With(n int) Set {
	s[n/wordBits] |= 1 << (n % wordBits)
	return s
}

// And answers the blocks that both sets have.
func (s Set) And(other Set) Set {
	for i, word := range other {
		s[i] &= word
	}
	return s
}

// Xor answers the blocks that one of the sets has, but not both.
func (s Set) Xor(other Set) Set {
	for i, word := range other {
		s[i] ^= word
	}
	return s
}

// First answers the least of the set's blocks, and whether it has any.
func (s Set) First() (int, bool) {
	for i, word := range s {
		if word != 0 {
			return i*wordBits + bits.TrailingZeros64(word), true
		}
	}
	return 0, false
}

// List answers the numbers of the set's blocks, rising.
func (s Set) List() []int {
	var list []int
	for n := range limit.MaxBlocks {
		if s.Has(n) {
			list = append(list, n)
		}
	}
	return list
}
