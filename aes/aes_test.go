package aes_test

import (
	"bytes"
	libaes "crypto/aes"
	"encoding/hex"
	"math/bits"
	"testing"

	"pursuivant/aes"
	"pursuivant/api"
)

func unhex(s string) []byte {
	b, err := hex.DecodeString(s)
	if err != nil {
		panic(err)
	}
	return b
}

// product multiplies polynomials the long way.
func product(a, b int) int {
	p := 0
	for i := range 8 {
		if b>>i&1 == 1 {
			p ^= a << i
		}
	}
	for i := 15; i >= 8; i-- {
		if p>>i&1 == 1 {
			p ^= 0x11b << (i - 8)
		}
	}
	return p
}

// P3.1, P3.4: products, inverses, boxes, columns.
func TestMulInverseBoxMix(t *testing.T) {
	for a := range 256 {
		for b := range 256 {
			if got := aes.Mul(byte(a), byte(b)); int(got) != product(a, b) {
				t.Fatalf("Mul(%x, %x): %x", a, b, got)
			}
		}
		i := aes.Inverse(byte(a))
		if a == 0 && i != 0 || a != 0 && product(a, int(i)) != 1 {
			t.Errorf("Inverse(%x): %x", a, i)
		}
	}
	seen := map[byte]int{}
	for a := range 256 {
		seen[aes.Box(byte(a))]++
	}
	if len(seen) != 256 {
		t.Error("two bytes have one box")
	}
	if aes.Box(0) != 0x63 || aes.Box(0x53) != 0xed || aes.Mul(0x57, 0x13) != 0xfe || aes.Inverse(0x53) != 0xca {
		t.Error("the rows of the examples")
	}
	if m := aes.Mix([4]byte{0xdb, 0x13, 0x53, 0x45}); m != [4]byte{0x8e, 0x4d, 0xa1, 0xbc} {
		t.Errorf("%x", m)
	}
	if m := aes.Mix([4]byte{0xd4, 0xd4, 0xd4, 0xd5}); m != [4]byte{0xd5, 0xd5, 0xd7, 0xd6} {
		t.Errorf("%x", m)
	}
}

// boxed is the box of a byte, the long way.
func boxed(b int) byte {
	inverse := byte(0)
	for i := range 256 {
		if product(b, i) == 1 {
			inverse = byte(i)
		}
	}
	box := byte(0x63)
	for n := range 5 {
		box ^= bits.RotateLeft8(inverse, n)
	}
	return box
}

// P3.1, P3.2: Box and ciphers, which do not ask Box, go by the same box, at every byte and whichever is called first.
func TestOneBox(t *testing.T) {
	for b := range 256 {
		want := boxed(b)
		c, _ := aes.New(bytes.Repeat([]byte{byte(b)}, 16))
		keys := c.Keys()
		if next := [4]byte(keys[1][:4]); next != [4]byte{want ^ byte(b) ^ 1, want ^ byte(b), want ^ byte(b), want ^ byte(b)} {
			t.Errorf("the key behind that of %x: %x", b, next)
		}
		for n, step := range c.Steps([16]byte{}) {
			// Of a block of one byte only, rows and columns are all alike, and the mix of a column is the column.
			if same := want ^ keys[1][0]; n == 1 && step[0] != same {
				t.Errorf("step 1 of %x: %x, not %x", b, step[0], same)
			}
		}
		if got := aes.Box(byte(b)); got != want {
			t.Errorf("Box(%x): %x, not %x", b, got, want)
		}
	}
}

// P3.2: the block that is made, keys, and keys that may not be.
func TestNewMakeKeys(t *testing.T) {
	key := unhex("2b7e151628aed2a6abf7158809cf4f3c")
	c, e := aes.New(key)
	if e != api.OK {
		t.Fatal(e)
	}
	if b, e := c.Make([16]byte(unhex("3243f6a8885a308d313198a2e0370734"))); e != api.OK || !bytes.Equal(b[:], unhex("3925841d02dc09fbdc118597196a0b32")) {
		t.Errorf("%x %v", b, e)
	}
	keys := c.Keys()
	if len(keys) != 11 || !bytes.Equal(keys[0][:], key) || !bytes.Equal(keys[1][:], unhex("a0fafe1788542cb123a339392a6c7605")) || !bytes.Equal(keys[10][:], unhex("d014f9a8c9ee2589e13f0cc8b6630ca6")) {
		t.Errorf("%x", keys)
	}
	keys[0][0] ^= 1
	key[0] ^= 1
	if again := c.Keys(); again[0] != [16]byte(unhex("2b7e151628aed2a6abf7158809cf4f3c")) {
		t.Error("answers share memory")
	}
	for i := range 200 {
		key, b := make([]byte, 16), [16]byte{}
		for j := range key {
			key[j], b[j] = byte(i*j+j), byte(i+j*j)
		}
		lib, _ := libaes.NewCipher(key)
		var want [16]byte
		lib.Encrypt(want[:], b[:])
		c, _ := aes.New(key)
		if got, e := c.Make(b); e != api.OK || got != want {
			t.Fatalf("%x by %x: %x, not %x", b, key, got, want)
		}
	}
	for _, n := range []int{0, 15, 17, 24, 32} {
		c, e := aes.New(make([]byte, n))
		if c != nil || e != api.ErrArg {
			t.Error(n, c, e)
		}
		if b, e := c.Make([16]byte{1}); e != api.ErrNil || b != [16]byte{} || c.Keys() != nil {
			t.Error("one that was refused answers")
		}
	}
	var zero aes.Cipher
	if _, e := zero.Make([16]byte{}); e != api.ErrNil || zero.Keys() != nil {
		t.Error("a zero one answers")
	}
}

// P3.3, P3.4: steps, left and gone over again; the last one is the block that is made.
func TestSteps(t *testing.T) {
	c, _ := aes.New(unhex("2b7e151628aed2a6abf7158809cf4f3c"))
	from := [16]byte(unhex("3243f6a8885a308d313198a2e0370734"))
	steps := c.Steps(from)
	for left := range 12 {
		n := 0
		for i, b := range steps {
			if i != n {
				t.Fatal("number", i, "at", n)
			}
			n++
			switch i {
			case 0:
				if !bytes.Equal(b[:], unhex("193de3bea0f4e22b9ac68d2ae9f84808")) {
					t.Errorf("%x", b)
				}
			case 1:
				if !bytes.Equal(b[:], unhex("a49c7ff2689f352b6b5bea43026a5049")) {
					t.Errorf("%x", b)
				}
			case 10:
				if made, _ := c.Make(from); made != b {
					t.Errorf("%x", b)
				}
			}
			if n == left {
				break
			}
		}
		if left > 0 && n != min(left, 11) {
			t.Error(left, n)
		}
	}
	var none *aes.Cipher
	for range none.Steps(from) {
		t.Error("none steps")
	}
	for range new(aes.Cipher).Steps(from) {
		t.Error("a zero one steps")
	}
}

// P3.4: unlike blocks are made into unlike ones.
func TestUnlike(t *testing.T) {
	c, _ := aes.New(make([]byte, 16))
	seen := map[[16]byte]int{}
	for i := range 1000 {
		b, _ := c.Make([16]byte{byte(i), byte(i >> 8)})
		seen[b]++
	}
	if len(seen) != 1000 {
		t.Error(len(seen))
	}
}

func BenchmarkMake(b *testing.B) {
	c, _ := aes.New(make([]byte, 16))
	for range b.N {
		c.Make([16]byte{})
	}
}

func BenchmarkNew(b *testing.B) {
	for range b.N {
		aes.New(make([]byte, 16))
	}
}
