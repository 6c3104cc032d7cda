package aes

import (
	"math/bits"
	"sync"
)

const (
	reduced = 0x1b // x^8, reduced: x^4 + x^3 + x + 1
	boxed   = 0x63
)

// The box is worked out at the first call that asks for it, and then kept.
var (
	boxOnce sync.Once
	boxes   [256]byte
)

// add is the xor of all.
func add(of ...byte) byte {
	var sum byte
	for _, b := range of {
		sum ^= b
	}
	return sum
}

// double is the product with x.
func double(b byte) byte { return b<<1 ^ b>>7*reduced }

// Mul: P3.1.
func Mul(a, b byte) byte {
	var product byte
	for ; b != 0; b >>= 1 {
		product ^= a * (b & 1)
		a = double(a)
	}
	return product
}

// Inverse: P3.1.
func Inverse(b byte) byte {
	// The 255th power of each byte but 0 is 1, so the one below it is the inverse.
	power := byte(1)
	for range 254 {
		power = Mul(power, b)
	}
	return power
}

func boxOf(b byte) byte {
	i := Inverse(b)
	rolled := func(n int) byte { return bits.RotateLeft8(i, n) }
	return add(i, rolled(1), rolled(2), rolled(3), rolled(4), boxed)
}

// Box: P3.1.
func Box(b byte) byte {
	boxOnce.Do(func() {
		for i := range boxes {
			boxes[i] = boxOf(byte(i))
		}
	})
	return boxes[b]
}
