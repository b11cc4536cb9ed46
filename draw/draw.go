// Package draw tells which blocks a drop has, from its number alone.
package draw

import "spring/block"

const (
	idFactor    = 40503
	countFactor = 2654435769
	offset      = 12345
	unusedDraws = 3
	scale       = 65536
	singleBonus = 4096
)

// state is what the draws are made from. It is never 0 at the numbers and
// counts within the limits, and from there on it passes through every other
// value, so that each block is drawn at some time.
type state uint32

func start(count int, id int) state {
	return state(idFactor*uint32(id) + countFactor*uint32(count) + offset)
}

func (s *state) next() uint32 {
	x := uint32(*s)
	x ^= x << 13
	x ^= x >> 17
	x ^= x << 5
	*s = state(x)
	return x
}

// weight tells how often, beside others, a drop out of count blocks has d.
func weight(d int, count int) uint32 {
	if d == 1 {
		return scale/uint32(count) + singleBonus
	}
	return scale / uint32(d*(d-1))
}

func totalWeight(count int) uint32 {
	var sum uint32
	for d := 1; d <= count; d++ {
		sum += weight(d, count)
	}
	return sum
}

// degree answers the least number of blocks of which the weights up to it
// are together above r. r is below totalWeight(count).
func degree(count int, r uint32) int {
	d := 1
	sum := weight(d, count)
	for sum <= r {
		d++
		sum += weight(d, count)
	}
	return d
}

// Blocks answers which of count blocks drop id has. The count is from 1 to
// MaxBlocks, id from 0 to MaxId.
func Blocks(count int, id int) block.Set {
	s := start(count, id)
	for range unusedDraws {
		s.next()
	}
	missing := degree(count, s.next()%totalWeight(count))
	var set block.Set
	for missing > 0 {
		n := int(s.next() % uint32(count))
		if set.Has(n) {
			continue
		}
		set = set.With(n)
		missing--
	}
	return set
}
