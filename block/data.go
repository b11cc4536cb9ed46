package block

import "spring/limit"

// Data is the xor of some blocks, with bytes 0 behind the blocks' size. It is
// an array, so that two of them can be compared by ==.
type Data [limit.MaxSize]byte

// DataOf answers the bytes, at most MaxSize, as Data.
func DataOf(bytes string) Data {
	var d Data
	copy(d[:], bytes)
	return d
}

// Xor answers both put together, byte by byte.
func (d Data) Xor(other Data) Data {
	for i, b := range other {
		d[i] ^= b
	}
	return d
}

// Stray answers the first byte of the data that cannot be: one that is behind
// the end of a text of that length, and not 0. It shows only where the last
// block is alone, since other blocks may have any byte there.
func Stray(length int, size int, set Set, data Data) (int, bool) {
	last := Count(length, size) - 1
	if set != One(last) {
		return 0, false
	}
	for n := length - last*size; n < size; n++ {
		if data[n] != 0 {
			return n, true
		}
	}
	return 0, false
}
