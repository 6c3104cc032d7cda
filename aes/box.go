package aes

import (
	"math/bits"
	"sync"
)

const (
	reduced = 0x1b // x^8, reduced: x^4 + x^3 + x + 1
	boxed   = 0x63
)

// The box of each byte: worked out at the first call of Box, which alone reads it, and then kept.
var (
	boxOnce sync.Once
	boxes   [256]byte
)

type boxTable [256]byte

// add is the xor of all.
func add(of ...byte) byte {
	var sum byte
	for _, b := range of {
		sum ^= b
	}
	return sum
}

// double is the product with x.
func double(b byte) byte { return b<<1 ^ b>>7*reduced }

// Mul: P3.1.
func Mul(a, b byte) byte {
	var product byte
	for ; b != 0; b >>= 1 {
		product ^= a * (b & 1)
		a = double(a)
	}
	return product
}

// Inverse: P3.1.
func Inverse(b byte) byte {
	// The 255th power of each byte but 0 is 1, so the one below it is the inverse.
	power := byte(1)
	for range 254 {
		power = Mul(power, b)
	}
	return power
}

// boxOf is the box of a byte that has this inverse.
func boxOf(i byte) byte {
	return i ^ bits.RotateLeft8(i, 1) ^ bits.RotateLeft8(i, 2) ^ bits.RotateLeft8(i, 3) ^ bits.RotateLeft8(i, 4) ^ boxed
}

// allBoxes works out the box of each byte. Ciphers go by it, not by what is kept: so what they make hangs on keys and blocks alone.
func allBoxes() boxTable {
	// The powers of x + 1 are all bytes but 0, and the 255th is 1 again: so two of them are inverses where their numbers make 255.
	var powers [256]byte
	power := byte(1)
	for n := range powers {
		powers[n] = power
		power ^= double(power)
	}
	all := boxTable{boxOf(0)}
	for n, p := range powers {
		all[p] = boxOf(powers[255-n])
	}
	return all
}

// Box: P3.1.
func Box(b byte) byte {
	boxOnce.Do(func() { boxes = allBoxes() })
	return boxes[b]
}
