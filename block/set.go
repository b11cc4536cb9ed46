package block

import "spring/limit"

const (
	wordBits = 64
	words    = (limit.MaxBlocks + wordBits - 1) / wordBits
)

// Set is which blocks a drop has, a bit each. It is an array, so that two
// sets can be compared by == and a set can be the key of a map.
type Set [words]uint64

// Has tells whether block n, from 0 to MaxBlocks - 1, is in the set.
func (s Set) Has(n int) bool {
	return s[n/wordBits]>>(n%wordBits)&1 == 1
}

// With answers the set with block n, from 0 to MaxBlocks - 1, in it.
func (s Set) With(n int) Set {
	s[n/wordBits] |= 1 << (n % wordBits)
	return s
}

// List answers the numbers of the set's blocks, rising.
func (s Set) List() []int {
	var list []int
	for n := range limit.MaxBlocks {
		if s.Has(n) {
			list = append(list, n)
		}
	}
	return list
}
