// Package block cuts a text into blocks and puts blocks together.
package block

import "spring/limit"

// Count tells how many blocks a text of that length has. The size is at
// least 1.
func Count(length int, size int) int {
	return (length + size - 1) / size
}

// Fit tells whether a text of that length can be sent in blocks of that size.
func Fit(length int, size int) bool {
	if length < 1 || length > limit.MaxText {
		return false
	}
	// The size is looked at ahead of Count, which divides by it.
	if size < 1 || size > limit.MaxSize {
		return false
	}
	return Count(length, size) <= limit.MaxBlocks
}

// Mix answers the xor of those blocks of the text that are in the set.
func Mix(text string, size int, set Set) []byte {
	data := make([]byte, size)
	for i := range len(text) {
		// The bytes behind the text's end are 0 and change nothing.
		if set.Has(i / size) {
			data[i%size] ^= text[i]
		}
	}
	return data
}
