// Package wire lays a drop out as bytes, and reads it again.
package wire

const (
	sumStart = 65535
	sumTurn  = 4129
	highBit  = 1 << 15
)

// Write answers the drop's bytes: id, length, size, data and their sum. id
// and length fit into two bytes, the size of the data into one.
func Write(id int, length int, data []byte) string {
	drop := appendPair(nil, uint16(id))
	drop = appendPair(drop, uint16(length))
	drop = append(drop, byte(len(data)))
	drop = append(drop, data...)
	return string(appendPair(drop, Sum(string(drop))))
}

// appendPair appends a number as two bytes, the higher one first.
func appendPair(list []byte, n uint16) []byte {
	return append(list, byte(n>>8), byte(n))
}

// Sum answers the sum by which damage to the bytes is noticed.
func Sum(bytes string) uint16 {
	var sum uint16 = sumStart
	for i := range len(bytes) {
		sum = turn(sum ^ uint16(bytes[i])<<8)
	}
	return sum
}

// turn takes the sum over the eight bits of one byte.
func turn(sum uint16) uint16 {
	for range 8 {
		if sum&highBit != 0 {
			sum = sum<<1 ^ sumTurn
		} else {
			sum <<= 1
		}
	}
	return sum
}
