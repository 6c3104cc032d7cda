package kdf_test

import (
	"bytes"
	"testing"

	"pursuivant/api"
	"pursuivant/cmac"
	"pursuivant/hmac"
	"pursuivant/kdf"
	"pursuivant/mac"
)

func text(n int) []byte {
	b := make([]byte, n)
	for i := range b {
		b[i] = byte(i*9 + 4)
	}
	return b
}

var link = api.Link{Own: 0x0a0b0c0d, Other: 0x01020304, OwnPort: 0x1122, OtherPort: 0x3344, OwnFirst: 0xfbfbab5a, OtherFirst: 0x11c14261}

// P6.1: keys, steps and inputs, up to their bounds, and beyond.
func TestKeyStepInput(t *testing.T) {
	for _, n := range []int{0, 1, 20, 200} {
		in, e := kdf.Input(text(n), 0x1234)
		want := append(append([]byte("\x01TCP-AO"), text(n)...), 0x12, 0x34)
		if e != api.OK || !bytes.Equal(in, want) {
			t.Errorf("Input of %d: %x %v", n, in, e)
		}
	}
	if in, e := kdf.Input([]byte("ab"), 160); e != api.OK || string(in) != "\x01TCP-AOab\x00\xa0" {
		t.Errorf("%q %v", in, e)
	}
	if in, e := kdf.Input(text(201), 160); in != nil || e != api.ErrArg {
		t.Error(in, e)
	}
	for _, n := range []int{1, 15, 16, 17, 80} {
		master := text(n)
		step, e := kdf.Step(master)
		want := master
		if n != 16 {
			tag, _ := cmac.Tag(make([]byte, 16), master)
			want = tag[:]
		}
		if e != api.OK || !bytes.Equal(step, want) {
			t.Errorf("Step of %d: %x %v", n, step, e)
		}
		step[0] ^= 1
		if !bytes.Equal(master, text(n)) {
			t.Error("Step shares memory with what it was handed")
		}
		context := text(20)
		in, _ := kdf.Input(context, 160)
		tag, _ := hmac.Tag(master, in)
		if key, e := kdf.Key(api.AlgHmac, master, context); e != api.OK || !bytes.Equal(key, tag[:]) {
			t.Errorf("%x %v", key, e)
		}
		in, _ = kdf.Input(context, 128)
		short, _ := cmac.Tag(want, in)
		if key, e := kdf.Key(api.AlgCmac, master, context); e != api.OK || !bytes.Equal(key, short[:]) {
			t.Errorf("%x %v", key, e)
		}
	}
	for _, n := range []int{0, 81, 500} {
		if step, e := kdf.Step(text(n)); step != nil || e != api.ErrArg {
			t.Error(n, step, e)
		}
		for alg := range mac.Algs() {
			if key, e := kdf.Key(alg, text(n), nil); key != nil || e != api.ErrArg {
				t.Error(n, key, e)
			}
		}
	}
	for _, alg := range []api.Alg{api.AlgNone, 3, -1} {
		if key, e := kdf.Key(alg, text(16), nil); key != nil || e != api.ErrArg {
			t.Error(alg, key, e)
		}
	}
	if key, e := kdf.Key(api.AlgHmac, text(16), text(201)); key != nil || e != api.ErrArg {
		t.Error(key, e)
	}
	if key, e := kdf.Key(api.AlgCmac, text(16), text(200)); len(key) != 16 || e != api.OK {
		t.Error(key, e)
	}
}

// P6.1: vectors of the line of RFC 5926 (as RFC 9235 tells them).
func TestVectors(t *testing.T) {
	master := []byte("testvector")
	syn := api.Link{Own: 0x0a0b0c0d, Other: 0xac1b1c1d, OwnPort: 0xe9d7, OtherPort: 0x00b3, OwnFirst: 0xfbfbab5a}
	want := []byte{0x6d, 0x63, 0xef, 0x1b, 0x02, 0xfe, 0x15, 0x09, 0xd4, 0xb1, 0x40, 0x27, 0x07, 0xfd, 0x7b, 0x04, 0x16, 0xab, 0xb7, 0x4f}
	if key, e := kdf.Key(api.AlgHmac, master, kdf.Context(syn)); e != api.OK || !bytes.Equal(key, want) {
		t.Errorf("%x %v", key, e)
	}
}

// P6.2: contexts, turned connections, the four keys.
func TestContextTurnedKeys(t *testing.T) {
	want := []byte{10, 11, 12, 13, 1, 2, 3, 4, 0x11, 0x22, 0x33, 0x44, 0xfb, 0xfb, 0xab, 0x5a, 0x11, 0xc1, 0x42, 0x61}
	if c := kdf.Context(link); !bytes.Equal(c, want) {
		t.Errorf("%x", c)
	}
	turned := api.Link{Own: link.Other, Other: link.Own, OwnPort: link.OtherPort, OtherPort: link.OwnPort, OwnFirst: link.OtherFirst, OtherFirst: link.OwnFirst}
	if kdf.Turned(link) != turned {
		t.Error(kdf.Turned(link))
	}
	synOf := func(l api.Link) api.Link { l.OtherFirst = 0; return l }
	for alg := range mac.Algs() {
		four, e := kdf.Keys(alg, text(30), link)
		if e != api.OK {
			t.Fatal(e)
		}
		for _, row := range []struct {
			name string
			got  []byte
			of   api.Link
		}{{"SendSyn", four.SendSyn, synOf(link)}, {"TakeSyn", four.TakeSyn, synOf(turned)}, {"Send", four.Send, link}, {"Take", four.Take, turned}} {
			if key, _ := kdf.Key(alg, text(30), kdf.Context(row.of)); !bytes.Equal(key, row.got) {
				t.Errorf("%s: %x", row.name, row.got)
			}
		}
	}
	for _, row := range []struct {
		alg api.Alg
		n   int
	}{{api.AlgNone, 5}, {7, 5}, {api.AlgHmac, 0}, {api.AlgCmac, 81}} {
		if four, e := kdf.Keys(row.alg, text(row.n), link); e != api.ErrArg || four.SendSyn != nil || four.TakeSyn != nil || four.Send != nil || four.Take != nil {
			t.Error(row, four, e)
		}
	}
}

// P6.3: what one end sends the other takes; turned twice; sizes.
func TestFollows(t *testing.T) {
	if kdf.Turned(kdf.Turned(link)) != link {
		t.Error("turned twice")
	}
	for alg := range mac.Algs() {
		a, _ := kdf.Keys(alg, text(16), link)
		b, _ := kdf.Keys(alg, text(16), kdf.Turned(link))
		if !bytes.Equal(a.Send, b.Take) || !bytes.Equal(a.Take, b.Send) || !bytes.Equal(a.SendSyn, b.TakeSyn) || !bytes.Equal(a.TakeSyn, b.SendSyn) {
			t.Error(alg)
		}
		size, _ := mac.Size(alg)
		for _, key := range [][]byte{a.Send, a.Take, a.SendSyn, a.TakeSyn} {
			if len(key) != size {
				t.Error(alg, len(key))
			}
		}
	}
	same := link
	same.OtherFirst = 0
	four, _ := kdf.Keys(api.AlgHmac, text(3), same)
	four.Send[0] ^= 1
	if bytes.Equal(four.Send, four.SendSyn) {
		t.Error("two keys share memory")
	}
}
