package cmac_test

import (
	"bytes"
	"encoding/hex"
	"math/big"
	"testing"

	"pursuivant/aes"
	"pursuivant/api"
	"pursuivant/cmac"
)

func unhex(s string) []byte {
	b, err := hex.DecodeString(s)
	if err != nil {
		panic(err)
	}
	return b
}

var key = unhex("2b7e151628aed2a6abf7158809cf4f3c")

var message = unhex("6bc1bee22e409f96e93d7e117393172aae2d8a571e03ac9c9eb76fac45af8e5130c81c46a35ce411e5fbc1191a0a52eff69f2445df4f9b17ad2b417be66c3710")

// P4.1: doubled blocks, as numbers of 128 bits; the key's blocks.
func TestDoubleBlocks(t *testing.T) {
	bound := new(big.Int).Lsh(big.NewInt(1), 128)
	for i := range 300 {
		var b [16]byte
		for j := range b {
			b[j] = byte(i*(j+1)*37 + j)
		}
		n := new(big.Int).Lsh(new(big.Int).SetBytes(b[:]), 1)
		if n.Cmp(bound) >= 0 {
			n.Sub(n, bound)
			n.Xor(n, big.NewInt(0x87))
		}
		if got := cmac.Double(b); new(big.Int).SetBytes(got[:]).Cmp(n) != 0 {
			t.Fatalf("Double(%x): %x", b, got)
		}
	}
	first, second, e := cmac.Blocks(key)
	if e != api.OK || !bytes.Equal(first[:], unhex("fbeed618357133667c85e08f7236a8de")) || !bytes.Equal(second[:], unhex("f7ddac306ae266ccf90bc11ee46d513b")) {
		t.Errorf("%x %x %v", first, second, e)
	}
	for _, n := range []int{0, 15, 17} {
		first, second, e := cmac.Blocks(make([]byte, n))
		if first != [16]byte{} || second != [16]byte{} || e != api.ErrArg {
			t.Error(n, first, second, e)
		}
	}
}

// P4.2: tags, short tags, keys that may not be.
func TestTagShort(t *testing.T) {
	for _, row := range []struct {
		n   int
		tag string
	}{
		{0, "bb1d6929e95937287fa37d129b756746"},
		{16, "070a16b46b4d4144f79bdd9dd04a287c"},
		{40, "dfa66747de9ae63030ca32611497c827"},
		{64, "51f0bebf7e3b9d92fc49741779363cfe"},
	} {
		m := message[:row.n]
		tag, e := cmac.Tag(key, m)
		if e != api.OK || !bytes.Equal(tag[:], unhex(row.tag)) {
			t.Errorf("%d bytes: %x %v", row.n, tag, e)
		}
		if cut, e := cmac.Tag(key, nil, m[:row.n/3], m[row.n/3:], nil); e != api.OK || cut != tag {
			t.Errorf("%d bytes in parts: %x %v", row.n, cut, e)
		}
		if s, e := cmac.Short(key, m); e != api.OK || !bytes.Equal(s[:], tag[:12]) {
			t.Errorf("%x %v", s, e)
		}
	}
	for _, n := range []int{0, 15, 17} {
		if tag, e := cmac.Tag(make([]byte, n), message); e != api.ErrArg || tag != [16]byte{} {
			t.Error(n, tag, e)
		}
		if tag, e := cmac.Short(make([]byte, n)); e != api.ErrArg || tag != [12]byte{} {
			t.Error(n, tag, e)
		}
	}
}

// P4.3: a tag under way, its copy, and none.
func TestMac(t *testing.T) {
	by := bytes.Clone(key)
	m, e := cmac.New(by)
	if e != api.OK {
		t.Fatal(e)
	}
	by[0] ^= 1
	b := bytes.Clone(message[:20])
	m.Write(b)
	b[0] ^= 1
	b[19] ^= 1
	c := m.Copy()
	if c.Write([]byte("xyz")) != api.OK || m.Write(message[20:40]) != api.OK {
		t.Error("Write")
	}
	want, _ := cmac.Tag(key, message[:40])
	if tag, e := m.Tag(); e != api.OK || tag != want {
		t.Errorf("%x %v", tag, e)
	}
	m.Write(message[40:])
	want, _ = cmac.Tag(key, message)
	if tag, _ := m.Tag(); tag != want {
		t.Error("more may be written behind Tag")
	}
	want, _ = cmac.Tag(key, message[:20], []byte("xyz"))
	if tag, _ := c.Tag(); tag != want {
		t.Error("a copy goes on apart")
	}
	refused, e := cmac.New(nil)
	if refused != nil || e != api.ErrArg {
		t.Error(refused, e)
	}
	for _, none := range []*cmac.Mac{nil, {}, refused} {
		tag, e := none.Tag()
		if none.Write(nil) != api.ErrNil || e != api.ErrNil || tag != [16]byte{} || none.Copy() != nil {
			t.Error("none answers")
		}
	}
}

// P4.4: cuts don't matter; one whole block; doubling is linear.
func TestFollows(t *testing.T) {
	for n := range 65 {
		want, _ := cmac.Tag(key, message[:n])
		for step := 1; step <= 33; step++ {
			m, _ := cmac.New(key)
			for at := 0; at < n; at += step {
				m.Write(message[at:min(at+step, n)])
				m.Write(nil)
			}
			if tag, _ := m.Tag(); tag != want {
				t.Fatal(n, step)
			}
		}
	}
	first, _, _ := cmac.Blocks(key)
	c, _ := aes.New(key)
	var b, one [16]byte
	for i := range b {
		b[i] = message[i]
		one[i] = b[i] ^ first[i]
	}
	made, _ := c.Make(one)
	if tag, _ := cmac.Tag(key, b[:]); tag != made {
		t.Error("one whole block")
	}
	for i := range 100 {
		var x, y, both [16]byte
		for j := range x {
			x[j], y[j] = byte(i*j*13+i), byte(i*7+j*j)
			both[j] = x[j] ^ y[j]
		}
		dx, dy := cmac.Double(x), cmac.Double(y)
		for j := range dx {
			dx[j] ^= dy[j]
		}
		if cmac.Double(both) != dx {
			t.Fatal("Double is not linear")
		}
	}
}
