package window_test

import (
	"testing"

	"pursuivant/api"
	"pursuivant/window"
)

func stands(t *testing.T, w *window.Window, acked, sent, most, limit int64) {
	t.Helper()
	if s := w.State(); s != (api.Window{Acked: acked, Sent: sent, Most: most, Limit: limit}) {
		t.Error(s)
	}
}

type answer struct {
	n int64
	e api.Errno
}

func got(n int64, e api.Errno) answer { return answer{n, e} }

// P13.1: bytes are taken, heard of, gone back to.
func TestTakeAckBack(t *testing.T) {
	w := window.New()
	stands(t, w, 0, 0, 0, 0)
	for i, r := range []struct {
		got, want answer
	}{
		{got(w.Take(1)), answer{0, api.ErrRoom}},
		{got(w.Take(0)), answer{0, api.OK}},
		{got(w.Take(-1)), answer{0, api.ErrArg}},
		{got(w.Ack(0, 10)), answer{0, api.OK}},
		{got(w.Take(4)), answer{0, api.OK}},
		{got(w.Room(), 0), answer{6, 0}},
		{got(w.Ack(5, 10)), answer{0, api.ErrAck}},
		{got(w.Ack(-1, 10)), answer{0, api.ErrArg}},
		{got(w.Ack(5, -1)), answer{0, api.ErrArg}},
		{got(w.Ack(5, 65536)), answer{0, api.ErrArg}},
		{got(w.Take(7)), answer{0, api.ErrRoom}},
		{got(w.Take(6)), answer{4, api.OK}},
		{got(w.Ack(4, 0)), answer{4, api.OK}},
	} {
		if r.got != r.want {
			t.Error(i, r.got)
		}
	}
	stands(t, w, 4, 10, 10, 10)
	if w.Zero() || got(w.Probe()) != (answer{0, api.ErrRoom}) {
		t.Error("it is not shut")
	}
	if w.Back() != api.OK || w.Room() != 6 {
		t.Error("Back")
	}
	stands(t, w, 4, 4, 10, 10)
	if got(w.Take(2)) != (answer{4, api.OK}) || got(w.Ack(9, 3)) != (answer{5, api.OK}) {
		t.Error("behind Back")
	}
	stands(t, w, 9, 9, 10, 12)
	if got(w.Ack(8, 60000)) != (answer{0, api.OK}) { // an elder place
		t.Error("an elder place")
	}
	stands(t, w, 9, 9, 10, 12)
	if got(w.Ack(9, 0)) != (answer{0, api.OK}) {
		t.Error("the same place")
	}
	stands(t, w, 9, 9, 10, 12)
	if got(w.Ack(9, 65535)) != (answer{0, api.OK}) || w.Room() != 65535 {
		t.Error("more room")
	}
}

// P13.1: a shut window, and the byte that is probed.
func TestZeroProbe(t *testing.T) {
	w := window.New()
	if !w.Zero() {
		t.Error("a new one is shut")
	}
	if got(w.Probe()) != (answer{0, api.OK}) {
		t.Error("Probe")
	}
	stands(t, w, 0, 0, 1, 0)
	if w.Zero() || got(w.Probe()) != (answer{0, api.ErrRoom}) || w.Room() != 0 {
		t.Error("probed already")
	}
	if got(w.Ack(1, 0)) != (answer{1, api.OK}) {
		t.Error("the byte that was probed")
	}
	stands(t, w, 1, 1, 1, 1)
	if !w.Zero() {
		t.Error("shut again")
	}
	w.Ack(1, 5)
	if w.Zero() || got(w.Probe()) != (answer{0, api.ErrRoom}) {
		t.Error("open")
	}
	w.Take(5)
	if w.Zero() || w.Room() != 0 {
		t.Error("all sent, none acknowledged")
	}
}

// P13.2: copies, what is the same, none.
func TestCopySame(t *testing.T) {
	w := window.New()
	w.Ack(0, 100)
	c := w.Copy()
	if !window.Same(w, c) {
		t.Error("a copy")
	}
	c.Take(1)
	stands(t, w, 0, 0, 0, 100)
	if window.Same(w, c) {
		t.Error("a copy goes on apart")
	}
	for _, none := range []*window.Window{nil, {}} {
		a, e := none.Take(1)
		b, f := none.Ack(0, -1)
		c, g := none.Probe()
		if a != 0 || b != 0 || c != 0 || e != api.ErrNil || f != api.ErrNil || g != api.ErrNil || none.Back() != api.ErrNil || none.Zero() || none.Room() != 0 || none.Copy() != nil {
			t.Error("none answers")
		}
		stands(t, none, 0, 0, 0, 0)
		if window.Same(none, window.New()) || window.Same(window.New(), none) || !window.Same(none, nil) || !window.Same(nil, none) {
			t.Error("a nil one is like a nil one alone")
		}
	}
	if !window.Same(window.New(), window.New()) {
		t.Error("two new ones")
	}
}

// P13.2: the room that is told.
func TestOffer(t *testing.T) {
	for _, r := range []struct {
		most, held, room int
		e                api.Errno
	}{
		{100, 60, 0, api.OK}, {100, 30, 70, api.OK}, {100, 50, 50, api.OK}, {100, 51, 0, api.OK}, {101, 51, 0, api.OK}, {101, 50, 51, api.OK},
		{1024, 960, 64, api.OK}, {1024, 961, 0, api.OK}, {1024, 1024, 0, api.OK}, {0, 0, 0, api.OK}, {1, 0, 1, api.OK}, {1, 1, 0, api.OK},
		{65535, 0, 65535, api.OK}, {65536, 0, 0, api.ErrArg}, {-1, 0, 0, api.ErrArg}, {5, -1, 0, api.ErrArg}, {5, 6, 0, api.ErrArg},
		{-1 << 63, 1<<63 - 1, 0, api.ErrArg}, {1<<63 - 1, -1 << 63, 0, api.ErrArg}, {10, -1 << 63, 0, api.ErrArg},
	} {
		if n, e := window.Offer(r.most, r.held); n != r.room || e != r.e {
			t.Error(r, n, e)
		}
	}
}

// P13.3: the order of places; they never get less.
func TestFollows(t *testing.T) {
	w := window.New()
	x := uint32(1)
	probed := int64(0)
	for range 20000 {
		x = x*1664525 + 1013904223
		before := w.State()
		switch n := int64(x >> 16 % 50); x >> 8 % 5 {
		case 0:
			w.Take(n % 20)
		case 1, 2:
			w.Ack(before.Acked+n%12-2, int(n%16))
		case 3:
			w.Back()
		case 4:
			if at, e := w.Probe(); e == api.OK {
				probed = at + 1
			}
		}
		s := w.State()
		if s.Acked > s.Sent || s.Sent > s.Most || s.Acked < before.Acked || s.Most < before.Most || s.Limit < before.Limit || s.Most > max(s.Limit, probed) {
			t.Fatal(before, s)
		}
	}
	if w.State().Acked == 0 || probed == 0 {
		t.Error("nothing came of it")
	}
}
