package spring_test

import "math/big"

// The document's rules once more, as plainly as they are told there, with
// numbers that do not wrap round, to hold the program against.

func modulo(x *big.Int, bits uint) *big.Int {
	return x.Mod(x, new(big.Int).Lsh(big.NewInt(1), bits))
}

func refDraw(x *big.Int) {
	x.Xor(x, modulo(new(big.Int).Mul(x, big.NewInt(1<<13)), 32))
	x.Xor(x, new(big.Int).Div(x, big.NewInt(1<<17)))
	x.Xor(x, modulo(new(big.Int).Mul(x, big.NewInt(1<<5)), 32))
}

func refWeights(k int) []int64 {
	weights := []int64{65536/int64(k) + 4096}
	for d := int64(2); d <= int64(k); d++ {
		weights = append(weights, 65536/(d*(d-1)))
	}
	return weights
}

func refBlocks(k, id int) []int {
	x := new(big.Int).Mul(big.NewInt(40503), big.NewInt(int64(id)))
	x.Add(x, new(big.Int).Mul(big.NewInt(2654435769), big.NewInt(int64(k))))
	modulo(x.Add(x, big.NewInt(12345)), 32)
	drawModulo := func(n int64) int64 {
		refDraw(x)
		return new(big.Int).Mod(x, big.NewInt(n)).Int64()
	}
	for i := 0; i < 3; i++ {
		refDraw(x)
	}
	weights := refWeights(k)
	sum := int64(0)
	for _, w := range weights {
		sum += w
	}
	r := drawModulo(sum)
	d := 0
	for together := int64(0); together <= r; d++ {
		together += weights[d]
	}
	there := map[int64]int{}
	for len(there) < d {
		there[drawModulo(int64(k))]++
	}
	var list []int
	for n := 0; n < k; n++ {
		if there[int64(n)] > 0 {
			list = append(list, n)
		}
	}
	return list
}

func refSum(bytes []byte) int {
	sum := 65535
	for _, b := range bytes {
		high, low := sum/256, sum%256
		sum = (high^int(b))*256 + low
		for i := 0; i < 8; i++ {
			if sum >= 32768 {
				sum = (2 * sum % 65536) ^ 4129
			} else {
				sum = 2 * sum
			}
		}
	}
	return sum
}

func refPour(text string, size, id int) string {
	full := []byte(text)
	for len(full)%size != 0 {
		full = append(full, 0)
	}
	drop := []byte{byte(id / 256), byte(id % 256), byte(len(text) / 256), byte(len(text) % 256), byte(size)}
	data := make([]byte, size)
	for _, n := range refBlocks(len(full)/size, id) {
		for i, b := range full[n*size : (n+1)*size] {
			data[i] ^= b
		}
	}
	drop = append(drop, data...)
	sum := refSum(drop)
	return string(append(drop, byte(sum/256), byte(sum%256)))
}
