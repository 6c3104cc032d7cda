package sha1_test

import (
	"bytes"
	libsha1 "crypto/sha1"
	"testing"

	"pursuivant/api"
	"pursuivant/sha1"
)

func text(n int) []byte {
	b := make([]byte, n)
	for i := range b {
		b[i] = byte(i*7 + i/11)
	}
	return b
}

// P1.1: the sum, of all lengths about the edges of blocks, and of parts.
func TestSumAndOf(t *testing.T) {
	for n := range 300 {
		b := text(n)
		want := libsha1.Sum(b)
		if got := sha1.Sum(b); got != want {
			t.Fatalf("Sum of %d bytes: %x, not %x", n, got, want)
		}
		for _, cut := range []int{0, n / 3, n} {
			if got := sha1.Of(b[:cut], nil, b[cut:]); got != want {
				t.Fatalf("Of %d bytes, cut at %d: %x", n, cut, got)
			}
		}
	}
	if sha1.Of() != libsha1.Sum(nil) || sha1.Sum(nil) != libsha1.Sum(nil) {
		t.Error("the sum of nothing")
	}
}

// P1.2: the first state, a block's, the tail and its bounds.
func TestFirstBlockTail(t *testing.T) {
	if sha1.First() != [5]uint32{0x67452301, 0xefcdab89, 0x98badcfe, 0x10325476, 0xc3d2e1f0} {
		t.Error(sha1.First())
	}
	for _, n := range []int64{0, 1, 54, 55, 56, 63, 64, 65, 119, 120, 1 << 40, 1 << 60} {
		b, e := sha1.Tail(n)
		if e != api.OK || (n+int64(len(b)))%64 != 0 || len(b) < 9 || len(b) > 72 || b[0] != 128 {
			t.Errorf("Tail(%d): %x %v", n, b, e)
			continue
		}
		var bits uint64
		for _, x := range b[len(b)-8:] {
			bits = bits<<8 | uint64(x)
		}
		if bits != uint64(n)*8 || len(bytes.Trim(b[1:len(b)-8], "\x00")) != 0 {
			t.Errorf("Tail(%d): %x", n, b)
		}
	}
	for _, n := range []int64{-1, -1 << 63, 1<<60 + 1, 1<<63 - 1} {
		if b, e := sha1.Tail(n); e != api.ErrArg || b != nil {
			t.Errorf("Tail(%d): %x %v", n, b, e)
		}
	}
}

// P1.3: a hash under way, its copy, and none.
func TestHash(t *testing.T) {
	h := sha1.New()
	if h.Len() != 0 || h.Sum() != libsha1.Sum(nil) {
		t.Error("a new hash")
	}
	b := text(200)
	given := bytes.Clone(b)
	if h.Write(b[:70]) != api.OK || h.Len() != 70 {
		t.Error("Write")
	}
	c := h.Copy()
	h.Write(b[70:])
	c.Write(b[:5])
	if h.Sum() != libsha1.Sum(b) || h.Sum() != h.Sum() || h.Len() != 200 {
		t.Error("Sum behind two Writes")
	}
	if c.Sum() != libsha1.Sum(append(bytes.Clone(b[:70]), b[:5]...)) || c.Len() != 75 {
		t.Error("a copy goes on apart")
	}
	if !bytes.Equal(b, given) {
		t.Error("what was handed in is another one")
	}
	b[0] ^= 1
	if h.Sum() != libsha1.Sum(given) {
		t.Error("what was handed in is kept")
	}
	for _, none := range []*sha1.Hash{nil, {}} {
		if none.Write(b) != api.ErrNil || none.Sum() != [20]byte{} || none.Len() != 0 || none.Copy() != nil {
			t.Error("none answers")
		}
	}
}

// P1.4: cuts don't matter; the sum is what Block makes of First.
func TestCutsAndBlocks(t *testing.T) {
	b := text(131)
	want := sha1.Sum(b)
	for step := 1; step < 130; step++ {
		h := sha1.New()
		for at := 0; at < len(b); at += step {
			h.Write(b[at:min(at+step, len(b))])
		}
		if h.Sum() != want {
			t.Fatal(step)
		}
	}
	tail, _ := sha1.Tail(int64(len(b)))
	all := append(bytes.Clone(b), tail...)
	state := sha1.First()
	for ; len(all) > 0; all = all[64:] {
		state = sha1.Block(state, [64]byte(all[:64]))
	}
	var sum []byte
	for _, w := range state {
		sum = append(sum, byte(w>>24), byte(w>>16), byte(w>>8), byte(w))
	}
	if !bytes.Equal(sum, want[:]) {
		t.Errorf("%x, not %x", sum, want)
	}
}
