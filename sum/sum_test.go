package sum_test

import (
	"bytes"
	"testing"

	"pursuivant/api"
	"pursuivant/sum"
)

func text(n int) []byte {
	b := make([]byte, n)
	for i := range b {
		b[i] = byte(i*i*31 + i + 200)
	}
	return b
}

func raw(b []byte) uint16 {
	t := 0
	for i, x := range b {
		if i%2 == 0 {
			t += int(x) << 8
		} else {
			t += int(x)
		}
	}
	for t > 65535 {
		t = t>>16 + t&65535
	}
	return uint16(t)
}

var row = []byte{0x00, 0x01, 0xf2, 0x03, 0xf4, 0xf5, 0xf6, 0xf7}

// P7.1: raw sums, sums, checks, numbers added.
func TestRawSumCheckAdd(t *testing.T) {
	if sum.Raw(row) != 0xddf2 || sum.Sum(row) != 0x220d || sum.Sum() != 65535 || sum.Sum(nil) != 65535 || sum.Raw([]byte{255, 255}) != 65535 {
		t.Error("the rows of the examples")
	}
	for n := range 200 {
		b := text(n)
		if sum.Raw(b) != raw(b) || sum.Sum(b) != 65535-raw(b) {
			t.Error(n)
		}
		if sum.Check(b) != (raw(b) == 65535) {
			t.Error(n)
		}
	}
	if !sum.Check([]byte{255}, []byte{255}) || sum.Check() || sum.Check([]byte{255}, []byte{254}) {
		t.Error("Check")
	}
	for _, r := range []struct{ a, b, c uint16 }{{65535, 1, 1}, {0, 0, 0}, {65535, 0, 65535}, {65535, 65535, 65535}, {40000, 30000, 4465}, {1, 2, 3}} {
		if got := sum.Add(r.a, r.b); got != r.c {
			t.Error(r, got)
		}
	}
}

// P7.2: heads, words that are changed, sums that are laid.
func TestHeadChangeLay(t *testing.T) {
	if h, e := sum.Head(0x01020304, 0xf5060708, 0x1234); e != api.OK || !bytes.Equal(h, []byte{1, 2, 3, 4, 0xf5, 6, 7, 8, 0, 6, 0x12, 0x34}) {
		t.Errorf("%x %v", h, e)
	}
	for _, n := range []int{0, 65535} {
		if h, e := sum.Head(0, 0, n); len(h) != 12 || e != api.OK {
			t.Error(n, h, e)
		}
	}
	for _, n := range []int{-1, 65536, 70000, -1 << 63, 1<<63 - 1} {
		if h, e := sum.Head(1, 2, n); h != nil || e != api.ErrArg {
			t.Error(n, h, e)
		}
	}
	for _, r := range []struct{ sum, was, now, want uint16 }{
		{0x220d, 0xf203, 0xf203, 0x220d}, {0x220d, 0x0001, 0x0002, 0x220c}, {65535, 0, 0, 0}, {0, 65535, 0, 0}, {0, 0, 65535, 0},
	} {
		if got := sum.Change(r.sum, r.was, r.now); got != r.want {
			t.Errorf("%v: %x", r, got)
		}
	}
	b := []byte{0x12, 0x34, 0xaa, 0xbb, 0xcc}
	laid, e := sum.Lay(b[:4], 2)
	if e != api.OK || !bytes.Equal(laid, []byte{0x12, 0x34, 0xed, 0xcb}) || !bytes.Equal(b, []byte{0x12, 0x34, 0xaa, 0xbb, 0xcc}) {
		t.Errorf("%x %v %x", laid, e, b)
	}
	for _, r := range []struct{ n, at int }{{3, 1}, {0, 0}, {1, 0}, {4, 4}, {4, 3}, {4, -2}, {4, -1}, {3, 2}, {4, 1<<63 - 2}, {4, -1 << 63}} {
		if l, e := sum.Lay(text(r.n), r.at); l != nil || e != api.ErrRange {
			t.Error(r, l, e)
		}
	}
}

// P7.3: a sum under way, its copy, and none.
func TestAdder(t *testing.T) {
	a := sum.New()
	if a.Raw() != 0 || a.Len() != 0 {
		t.Error("a new one")
	}
	b := text(77)
	if a.Write(b[:33]) != api.OK || a.Len() != 33 || a.Raw() != raw(b[:33]) {
		t.Error("of an odd number of bytes")
	}
	c := a.Copy()
	a.Write(b[33:])
	c.Write([]byte{9})
	if a.Raw() != raw(b) || a.Len() != 77 || c.Raw() != raw(append(bytes.Clone(b[:33]), 9)) || c.Len() != 34 {
		t.Error("a copy goes on apart")
	}
	for _, none := range []*sum.Adder{nil, {}} {
		if none.Write(b) != api.ErrNil || none.Raw() != 0 || none.Len() != 0 || none.Copy() != nil {
			t.Error("none answers")
		}
	}
}

// P7.4: cuts, the order of even parts, what is laid checks, what is changed.
func TestFollows(t *testing.T) {
	b := text(90)
	for i := range 91 {
		for j := i; j <= 90; j += 7 {
			if sum.Raw(b[:i], b[i:j], nil, b[j:]) != raw(b) {
				t.Fatal(i, j)
			}
		}
	}
	for step := 1; step < 90; step++ {
		a := sum.New()
		for at := 0; at < 90; at += step {
			a.Write(b[at:min(at+step, 90)])
		}
		if a.Raw() != raw(b) {
			t.Fatal(step)
		}
	}
	if sum.Raw(b[:4], b[4:60], b[60:]) != sum.Raw(b[60:], b[:4], b[4:60]) {
		t.Error("order")
	}
	for n := 2; n < 40; n++ {
		for at := 0; at+2 <= n; at += 2 {
			laid, e := sum.Lay(text(n), at)
			if e != api.OK || !sum.Check(laid) {
				t.Fatal(n, at, laid, e)
			}
		}
	}
	for i := range 1000 {
		was, now := text(40), text(40)
		now[2*(i%20)], now[2*(i%20)+1] = byte(i), byte(i>>3)
		at := 2 * (i % 20)
		got := sum.Change(sum.Sum(was), uint16(was[at])<<8|uint16(was[at+1]), uint16(now[at])<<8|uint16(now[at+1]))
		if got != sum.Sum(now) {
			t.Fatal(i, got, sum.Sum(now))
		}
	}
}
