package hmac_test

import (
	"bytes"
	libhmac "crypto/hmac"
	libsha1 "crypto/sha1"
	"testing"

	"pursuivant/api"
	"pursuivant/hmac"
)

func text(n int) []byte {
	b := make([]byte, n)
	for i := range b {
		b[i] = byte(i*5 + 3)
	}
	return b
}

func want(key, message []byte) [20]byte {
	m := libhmac.New(libsha1.New, key)
	m.Write(message)
	return [20]byte(m.Sum(nil))
}

// P2.1: the block, the tag, the short tag; keys up to their bound, and beyond.
func TestBlockTagShort(t *testing.T) {
	for _, n := range []int{0, 1, 20, 63, 64, 65, 80, 200, api.MaxText} {
		key := text(n)
		block, e := hmac.Block(key)
		short := key
		if n > 64 {
			sum := libsha1.Sum(key)
			short = sum[:]
		}
		if e != api.OK || !bytes.Equal(block[:], append(bytes.Clone(short), make([]byte, 64-len(short))...)) {
			t.Errorf("Block of %d bytes: %x %v", n, block, e)
		}
		for _, l := range []int{0, 1, 55, 64, 130} {
			m := text(l)
			tag, e := hmac.Tag(key, m[:l/2], nil, m[l/2:])
			if e != api.OK || tag != want(key, m) {
				t.Errorf("Tag by %d bytes of %d: %x %v", n, l, tag, e)
			}
			if s, e := hmac.Short(key, m); e != api.OK || !bytes.Equal(s[:], tag[:12]) {
				t.Errorf("Short: %x %v", s, e)
			}
		}
	}
	if tag, e := hmac.Tag(nil); e != api.OK || tag != want(nil, nil) {
		t.Error("Tag of nothing by nothing", tag, e)
	}
	long := text(api.MaxText + 1)
	if b, e := hmac.Block(long); e != api.ErrLong || b != [64]byte{} {
		t.Error(b, e)
	}
	if b, e := hmac.Tag(long, text(3)); e != api.ErrLong || b != [20]byte{} {
		t.Error(b, e)
	}
	if b, e := hmac.Short(long, text(3)); e != api.ErrLong || b != [12]byte{} {
		t.Error(b, e)
	}
}

// P2.2: a tag under way, its copy, and none.
func TestMac(t *testing.T) {
	key := text(30)
	m, e := hmac.New(key)
	if e != api.OK {
		t.Fatal(e)
	}
	key[0] ^= 1 // what was handed in is not kept
	key = text(30)
	if tag, e := m.Tag(); e != api.OK || tag != want(key, nil) {
		t.Error("of no bytes", tag, e)
	}
	m.Write(text(10))
	c := m.Copy()
	if m.Write(text(100)) != api.OK || c.Write([]byte("x")) != api.OK {
		t.Error("Write")
	}
	if tag, _ := m.Tag(); tag != want(key, append(text(10), text(100)...)) {
		t.Error("behind two Writes")
	}
	m.Write([]byte("more"))
	if tag, _ := m.Tag(); tag != want(key, append(append(text(10), text(100)...), "more"...)) {
		t.Error("more may be written behind Tag")
	}
	if tag, _ := c.Tag(); tag != want(key, append(text(10), 'x')) {
		t.Error("a copy goes on apart")
	}
	refused, e := hmac.New(text(api.MaxText + 1))
	if refused != nil || e != api.ErrLong {
		t.Error(refused, e)
	}
	for _, none := range []*hmac.Mac{nil, {}, refused} {
		tag, e := none.Tag()
		if none.Write(nil) != api.ErrNil || e != api.ErrNil || tag != [20]byte{} || none.Copy() != nil {
			t.Error("none answers")
		}
	}
}

// P2.3: cuts don't matter; long keys and their sums, keys and noughts behind make the same tags.
func TestAlike(t *testing.T) {
	m := text(150)
	whole, _ := hmac.Tag(text(9), m)
	for step := 1; step < 150; step += 3 {
		u, _ := hmac.New(text(9))
		for at := 0; at < len(m); at += step {
			u.Write(m[at:min(at+step, len(m))])
		}
		if tag, _ := u.Tag(); tag != whole {
			t.Fatal(step)
		}
	}
	long := text(65)
	sum := libsha1.Sum(long)
	a, _ := hmac.Tag(long, m)
	b, _ := hmac.Tag(sum[:], m)
	if a != b {
		t.Error("a long key and its sum")
	}
	for n := 9; n <= 64; n++ {
		if tag, _ := hmac.Tag(append(text(9), make([]byte, n-9)...), m); tag != whole {
			t.Fatal(n)
		}
	}
	if tag, _ := hmac.Tag(append(text(9), make([]byte, 56)...), m); tag == whole {
		t.Error("65 bytes are another key")
	}
}
