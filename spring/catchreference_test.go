package spring_test

import (
	"math/big"

	"spring/spring"
)

// refRead follows the document's words on Read, one after the other.
func refRead(drop string) (spring.Drop, spring.Errno, int) {
	no := func(place int) (spring.Drop, spring.Errno, int) {
		return spring.Drop{}, spring.ErrDrop, place
	}
	if len(drop) < 5 {
		return no(len(drop))
	}
	id, length, size := int(drop[0])*256+int(drop[1]), int(drop[2])*256+int(drop[3]), int(drop[4])
	if length == 0 || length > maxText {
		return no(2)
	}
	if size == 0 || size > maxSize || refCount(length, size) > maxBlocks {
		return no(4)
	}
	if len(drop) < size+7 {
		return no(len(drop))
	}
	if len(drop) > size+7 {
		return no(size + 7)
	}
	if int(drop[size+5])*256+int(drop[size+6]) != refSum([]byte(drop[:size+5])) {
		return no(size + 5)
	}
	k := refCount(length, size)
	if list := refBlocks(k, id); len(list) == 1 && list[0] == k-1 {
		for n := range size {
			if (k-1)*size+n >= length && drop[5+n] != 0 {
				return no(5 + n)
			}
		}
	}
	return spring.Drop{Id: id, Len: length, Size: size, Data: drop[5 : 5+size]}, spring.OK, 0
}

func refCount(length, size int) int {
	k := 0
	for k*size < length {
		k++
	}
	return k
}

// equations are what is told of one bit in each of k blocks: each is a number
// of which bit n says whether block n takes part, and bit k what they are
// together.
type equations struct {
	k    int
	list []*big.Int
}

func (s *equations) add(blocks []int, bit int) {
	x := new(big.Int)
	for _, n := range blocks {
		x.SetBit(x, n, 1)
	}
	s.list = append(s.list, x.SetBit(x, s.k, uint(bit)))
}

// fit tells whether the equations, and one more, have a solution.
func (s *equations) fit(block, bit int) bool {
	more := new(big.Int)
	if block >= 0 {
		more.SetBit(more, block, 1)
		more.SetBit(more, s.k, uint(bit))
	}
	pivots := make([]*big.Int, s.k)
	for _, e := range append(s.list[:len(s.list):len(s.list)], more) {
		x := new(big.Int).Set(e)
		for n, pivot := range pivots {
			if x.Bit(n) == 0 {
				continue
			}
			if pivot == nil {
				pivots[n] = x
				break
			}
			x = new(big.Int).Xor(x, pivot)
		}
		if x.Sign() != 0 && int(x.TrailingZeroBits()) == s.k {
			return false
		}
	}
	return true
}

// refEquations answers what the drops tell of each bit of the blocks, and that
// the bits behind the text's end are 0.
func refEquations(drops []spring.Drop) []*equations {
	length, size := drops[0].Len, drops[0].Size
	k := refCount(length, size)
	var all []*equations
	for bit := range 8 * size {
		s := &equations{k: k}
		if (k-1)*size+bit/8 >= length {
			s.add([]int{k - 1}, 0)
		}
		for _, d := range drops {
			s.add(refBlocks(k, d.Id), int(d.Data[bit/8]>>(bit%8)&1))
		}
		all = append(all, s)
	}
	return all
}

func refFit(drops []spring.Drop) bool {
	for _, s := range refEquations(drops) {
		if !s.fit(-1, 0) {
			return false
		}
	}
	return true
}

// refBlock answers the bytes of a block, and whether each of its bits can be
// but one.
func refBlock(all []*equations, size, n int) ([]byte, bool) {
	data := make([]byte, size)
	for bit, s := range all {
		zero, one := s.fit(n, 0), s.fit(n, 1)
		if zero && one {
			return nil, false
		}
		if one {
			data[bit/8] |= 1 << (bit % 8)
		}
	}
	return data, true
}

// refCatch follows the document's words on Catch: it tries of each bit whether
// it can be 0 and whether it can be 1.
func refCatch(drops []string) (spring.Found, spring.Errno, int) {
	if len(drops) > maxDrops {
		return spring.Found{}, spring.ErrLong, 0
	}
	var kept []spring.Drop
	for number, drop := range drops {
		d, e, _ := refRead(drop)
		if e != spring.OK || len(kept) > 0 && (d.Len != kept[0].Len || d.Size != kept[0].Size) {
			continue
		}
		if kept = append(kept, d); !refFit(kept) {
			return spring.Found{}, spring.ErrParts, number
		}
	}
	if len(kept) == 0 {
		return spring.Found{}, spring.ErrNone, 0
	}
	length, size := kept[0].Len, kept[0].Size
	all := refEquations(kept)
	sure := make([]bool, refCount(length, size))
	text := make([]byte, len(sure)*size)
	for n := range sure {
		data, ok := refBlock(all, size, n)
		sure[n] = ok
		copy(text[n*size:], data)
	}
	return spring.Found{Len: length, Size: size, Sure: sure, Text: string(text[:length]), Drops: len(kept)}, spring.OK, 0
}
