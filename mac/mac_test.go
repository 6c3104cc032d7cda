package mac_test

import (
	"bytes"
	"testing"

	"pursuivant/api"
	"pursuivant/cmac"
	"pursuivant/hmac"
	"pursuivant/mac"
)

var wrong = []api.Alg{api.AlgNone, 3, -1, 1 << 40, -1 << 63}

func text(n int) []byte {
	b := make([]byte, n)
	for i := range b {
		b[i] = byte(i*3 + 1)
	}
	return b
}

// P5.1: sizes, tags and checks; ways that are none, keys of another length.
func TestSizeTagCheck(t *testing.T) {
	for alg, size := range map[api.Alg]int{api.AlgHmac: 20, api.AlgCmac: 16} {
		if n, e := mac.Size(alg); n != size || e != api.OK {
			t.Error(alg, n, e)
		}
		key, m := text(size), text(50)
		want, _ := hmac.Short(key, m)
		if alg == api.AlgCmac {
			want, _ = cmac.Short(key, m)
		}
		tag, e := mac.Tag(alg, key, m[:20], nil, m[20:])
		if tag != want || e != api.OK {
			t.Error(alg, tag, e)
		}
		if is, e := mac.Check(alg, key, tag, m[:1], m[1:]); !is || e != api.OK {
			t.Error(alg, is, e)
		}
		for _, n := range []int{0, size - 1, size + 1, 36 - size} {
			if tag, e := mac.Tag(alg, text(n), m); tag != [12]byte{} || e != api.ErrArg {
				t.Error(alg, n, tag, e)
			}
			if is, e := mac.Check(alg, text(n), tag, m); is || e != api.ErrArg {
				t.Error(alg, n, is, e)
			}
		}
		if !bytes.Equal(key, text(size)) || !bytes.Equal(m, text(50)) {
			t.Error("what was handed in is another one")
		}
	}
	for _, alg := range wrong {
		n, e := mac.Size(alg)
		tag, f := mac.Tag(alg, text(16))
		is, g := mac.Check(alg, text(20), [12]byte{})
		if n != 0 || tag != [12]byte{} || is || e != api.ErrArg || f != api.ErrArg || g != api.ErrArg {
			t.Error(alg, n, tag, is, e, f, g)
		}
	}
}

// P5.2: each bit counts.
func TestSame(t *testing.T) {
	a := [12]byte(text(12))
	if !mac.Same(a, a) || !mac.Same([12]byte{}, [12]byte{}) {
		t.Error("the same")
	}
	for i := range 96 {
		b := a
		b[i/8] ^= 1 << (i % 8)
		if mac.Same(a, b) || mac.Same(b, a) {
			t.Error(i)
		}
	}
	// Differences that would cancel one another are differences.
	b := a
	b[0] ^= 5
	b[1] ^= 5
	if mac.Same(a, b) {
		t.Error("two bytes")
	}
}

// P5.3: the ways, their names.
func TestAlgsNameOf(t *testing.T) {
	all := mac.Algs()
	for range 2 {
		var algs []api.Alg
		var names string
		for alg, name := range all {
			algs = append(algs, alg)
			names += name + " "
		}
		if len(algs) != 2 || algs[0] != api.AlgHmac || algs[1] != api.AlgCmac || names != "hmac cmac " {
			t.Error(algs, names)
		}
		for alg := range all {
			if alg != api.AlgHmac {
				t.Error(alg)
			}
			break
		}
	}
	for _, alg := range wrong {
		if name, is := mac.Name(alg); name != "" || is {
			t.Error(alg, name, is)
		}
	}
	for _, name := range []string{"", "md5", "Hmac", "hmac ", "\xff"} {
		if alg, is := mac.Of(name); alg != 0 || is {
			t.Error(name, alg, is)
		}
	}
}

// P5.4: a message's own tag alone is right; names and ways turn about.
func TestFollows(t *testing.T) {
	for alg, name := range mac.Algs() {
		if got, is := mac.Name(alg); got != name || !is {
			t.Error(alg, got, is)
		}
		if got, is := mac.Of(name); got != alg || !is {
			t.Error(name, got, is)
		}
		size, _ := mac.Size(alg)
		tag, _ := mac.Tag(alg, text(size), []byte("word"))
		for i := range 96 {
			other := tag
			other[i/8] ^= 1 << (i % 8)
			if is, e := mac.Check(alg, text(size), other, []byte("word")); is || e != api.OK {
				t.Error(alg, i, is, e)
			}
		}
		if is, _ := mac.Check(alg, text(size), tag, []byte("words")); is {
			t.Error("of another message")
		}
	}
}
