package frame_test

import (
	"bytes"
	"testing"

	"pursuivant/api"
	"pursuivant/frame"
)

func body(n int) []byte {
	b := make([]byte, n)
	for i := range b {
		b[i] = byte(i * 3)
	}
	return b
}

func raw(t *testing.T, kind, n int) []byte {
	t.Helper()
	b, e := frame.Raw(kind, body(n))
	if e != api.OK {
		t.Fatal(e)
	}
	return b
}

// head is the head of a frame, right or wrong.
func head(mark byte, size int, kind byte) []byte {
	b := bytes.Repeat([]byte{255}, 16)
	b[15] = mark
	return append(b, byte(size>>8), byte(size), kind)
}

// P17.1: a frame's bytes, and what may not be.
func TestRaw(t *testing.T) {
	for _, r := range []struct {
		kind, n int
		e       api.Errno
	}{{1, 0, 0}, {4, 493, 0}, {0, 0, api.ErrArg}, {5, 0, api.ErrArg}, {-1, 0, api.ErrArg}, {257, 0, api.ErrArg}, {2, 494, api.ErrLong}, {0, 494, api.ErrArg}} {
		b, e := frame.Raw(r.kind, body(r.n))
		if e != r.e || e != api.OK && b != nil {
			t.Error(r, b, e)
		}
		if e == api.OK && !bytes.Equal(b, append(head(255, 19+r.n, byte(r.kind)), body(r.n)...)) {
			t.Errorf("%x", b)
		}
	}
}

// P17.1: the first frame of some bytes: what is wrong, in order, and what is not there yet.
func TestCut(t *testing.T) {
	for i, r := range []struct {
		b []byte
		e api.Errno
	}{
		{nil, 0},
		{bytes.Repeat([]byte{255}, 18), 0},
		{make([]byte, 18), 0},
		{make([]byte, 19), api.ErrMark},
		{head(254, 18, 5), api.ErrMark},
		{head(255, 18, 4), api.ErrSize},
		{head(255, 0, 9), api.ErrSize},
		{head(255, 513, 9), api.ErrSize},
		{head(255, 65535, 4), api.ErrSize},
		{head(255, 19, 0), api.ErrKind},
		{head(255, 19, 5), api.ErrKind},
		{head(255, 512, 5), api.ErrKind},
		{head(255, 20, 4), 0},
		{head(255, 512, 1), 0},
		{raw(t, 3, 9)[:27], 0},
	} {
		kind, b, n, e := frame.Cut(r.b)
		if kind != 0 || b != nil || n != 0 || e != r.e {
			t.Error(i, kind, b, n, e)
		}
	}
	for n := range 494 {
		given := append(raw(t, 1+n%4, n), 1, 2, 3)
		kind, b, size, e := frame.Cut(given)
		if kind != 1+n%4 || !bytes.Equal(b, body(n)) || size != 19+n || e != api.OK {
			t.Fatal(n, kind, b, size, e)
		}
		if n > 0 {
			given[19]++
			if b[0] != 0 {
				t.Fatal("an answer shares memory with what was handed in")
			}
		}
	}
}

// P17.2: frames under way.
func TestFrames(t *testing.T) {
	f := frame.New()
	next := func(kind, n int, is bool, e api.Errno) {
		t.Helper()
		k, b, got, g := f.Next()
		if k != kind || got != is || g != e || is && !bytes.Equal(b, body(n)) || !is && b != nil {
			t.Error(k, b, got, g)
		}
	}
	next(0, 0, false, api.OK)
	b := raw(t, 2, 30)
	f.Write(b[:20])
	b[19] ^= 1
	next(0, 0, false, api.OK)
	if l := f.Left(); len(l) != 20 || l[19] != 0 {
		t.Error(l)
	}
	b[19] ^= 1
	f.Write(b[20:])
	f.Write(append(raw(t, 4, 0), head(255, 600, 1)...))
	next(2, 30, true, api.OK)
	next(4, 0, true, api.OK)
	if f.Flaw() != api.OK || f.Write([]byte{1, 2}) != api.OK {
		t.Error("a flaw ahead of its being looked at")
	}
	next(0, 0, false, api.ErrSize)
	next(0, 0, false, api.ErrSize)
	if f.Flaw() != api.ErrSize || f.Write(raw(t, 1, 1)) != api.ErrSize || len(f.Left()) != 21 {
		t.Error(f.Flaw(), f.Left())
	}
}

// P17.3: all that there are; what is left; copies; none.
func TestAllLeftFlawCopy(t *testing.T) {
	f := frame.New()
	for n := range 5 {
		f.Write(raw(t, 1+n%4, n))
	}
	f.Write([]byte{255, 255})
	n := 0
	all := f.All()
	for kind, b := range all {
		if kind != 1+n%4 || len(b) != n {
			t.Error(n, kind, b)
		}
		if n++; n == 2 {
			break
		}
	}
	c := f.Copy()
	for kind := range all {
		if kind != 1+n%4 {
			t.Error(n, kind)
		}
		n++
	}
	if n != 5 || !bytes.Equal(f.Left(), []byte{255, 255}) || f.Flaw() != api.OK {
		t.Error(n, f.Left(), f.Flaw())
	}
	if len(c.Left()) != 3*19+2+3+4+2 {
		t.Error("a copy goes on apart", len(c.Left()))
	}
	f.Write(make([]byte, 17))
	for range f.All() {
		t.Error("a wrong one is told")
	}
	if f.Flaw() != api.ErrMark || c.Flaw() != api.OK {
		t.Error(f.Flaw(), c.Flaw())
	}
	if f.Copy().Flaw() != api.ErrMark || len(f.Copy().Left()) != 19 {
		t.Error("a copy of one that has a flaw")
	}
	l := c.Left()
	l[0]++
	if c.Left()[0] != 255 {
		t.Error("Left shares memory")
	}
	for _, none := range []*frame.Frames{nil, {}} {
		kind, b, is, e := none.Next()
		if kind != 0 || b != nil || is || e != api.ErrNil || none.Write(nil) != api.ErrNil || none.Left() != nil || none.Flaw() != api.ErrNil || none.Copy() != nil {
			t.Error("none answers")
		}
		for range none.All() {
			t.Error("none tells")
		}
	}
}

// P17.4: cuts don't matter; frames' bytes are taken as these frames.
func TestFollows(t *testing.T) {
	var text []byte
	for n := range 40 {
		text = append(text, raw(t, 1+n%4, n*12)...)
	}
	flawed := append(bytes.Clone(text), head(255, 19, 7)...)
	for step := 1; step < 300; step += 7 {
		f := frame.New()
		n := 0
		for at := 0; at < len(flawed); at += step {
			f.Write(flawed[at:min(at+step, len(flawed))])
			for kind, b := range f.All() {
				if kind != 1+n%4 || !bytes.Equal(b, body(n*12)) {
					t.Fatal(step, n, kind, b)
				}
				n++
			}
		}
		if n != 40 || f.Flaw() != api.ErrKind {
			t.Error(step, n, f.Flaw())
		}
	}
	f := frame.New()
	f.Write(text)
	n := 0
	for range f.All() {
		n++
	}
	if n != 40 || len(f.Left()) != 0 || f.Flaw() != api.OK {
		t.Error(n, f.Left(), f.Flaw())
	}
}
