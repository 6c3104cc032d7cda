// Package sha1 is layer 1: see shared/doc/01-sha1.md.
package sha1

import (
	"math/bits"

	"pursuivant/api"
)

const (
	blockSize  = 64
	lengthSize = 8
	tailMark   = 128
	mostBytes  = 1 << 60
)

// round is what some steps of a block have in common.
type round struct {
	below int
	mix   func(b, c, d uint32) uint32
	word  uint32
}

func parity(b, c, d uint32) uint32 { return b ^ c ^ d }

func rounds() []round {
	return []round{
		{20, func(b, c, d uint32) uint32 { return b&c | ^b&d }, 0x5a827999},
		{40, parity, 0x6ed9eba1},
		{60, func(b, c, d uint32) uint32 { return b&c | b&d | c&d }, 0x8f1bbcdc},
		{80, parity, 0xca62c1d6},
	}
}

// Sum: P1.1.
func Sum(b []byte) [20]byte { return Of(b) }

// Of: P1.1.
func Of(parts ...[]byte) [20]byte {
	h := New()
	for _, p := range parts {
		h.Write(p)
	}
	return h.Sum()
}

// First: P1.2.
func First() [5]uint32 {
	return [5]uint32{0x67452301, 0xefcdab89, 0x98badcfe, 0x10325476, 0xc3d2e1f0}
}

// Block: P1.2.
func Block(state [5]uint32, b [64]byte) [5]uint32 {
	words := wordsOf(b)
	now := state
	i := 0
all:
	for _, r := range rounds() {
		for {
			if i == len(words) {
				break all
			}
			if i == r.below {
				continue all
			}
			t := bits.RotateLeft32(now[0], 5) + r.mix(now[1], now[2], now[3]) + now[4] + r.word + words[i]
			now = [5]uint32{t, now[0], bits.RotateLeft32(now[1], 30), now[2], now[3]}
			i++
		}
	}
	for i := range state {
		state[i] += now[i]
	}
	return state
}

func wordsOf(b [64]byte) [80]uint32 {
	var w [80]uint32
	for i := range 16 {
		w[i] = number[uint32](b[4*i : 4*i+4])
	}
	for i := 16; i < len(w); i++ {
		w[i] = bits.RotateLeft32(w[i-3]^w[i-8]^w[i-14]^w[i-16], 1)
	}
	return w
}

// number reads bytes, the highest ahead.
func number[T uint32 | uint64](b []byte) T {
	var n T
	for _, x := range b {
		n = n<<8 | T(x)
	}
	return n
}

// laid is a number as bytes, the highest ahead.
func laid[T uint32 | uint64](n T, size int) []byte {
	b := make([]byte, size)
	for i := range b {
		b[size-1-i] = byte(n)
		n >>= 8
	}
	return b
}

// Tail: P1.2.
func Tail(n int64) ([]byte, api.Errno) {
	if n < 0 || n > mostBytes {
		return nil, api.ErrArg
	}
	over := int((n + 1 + lengthSize) % blockSize)
	noughts := (blockSize - over) % blockSize
	b := make([]byte, 1+noughts, 1+noughts+lengthSize)
	b[0] = tailMark
	return append(b, laid(uint64(n)*8, lengthSize)...), api.OK
}
