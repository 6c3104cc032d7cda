package stream_test

import (
	"bytes"
	"slices"
	"testing"

	"pursuivant/api"
	"pursuivant/stream"
)

const (
	syn    = api.Syn
	ack    = api.Ack
	fin    = api.Fin
	rst    = api.Rst
	synAck = api.Syn | api.Ack
)

func part(flags api.Flags, seq, ackOf uint32, room uint16, data string) api.Part {
	return api.Part{Flags: flags, Seq: seq, Ack: ackOf, Window: room, Data: []byte(data)}
}

func same(a, b api.Part) bool {
	return a.Flags == b.Flags && a.Seq == b.Seq && a.Ack == b.Ack && a.Window == b.Window && bytes.Equal(a.Data, b.Data)
}

// sends checks what is sent.
func sends(t *testing.T, got []api.Part, want ...api.Part) {
	t.Helper()
	if !slices.EqualFunc(got, want, same) {
		t.Fatalf("sent %v, not %v", got, want)
	}
}

func come(t *testing.T, s *stream.Stream, p api.Part) []api.Part {
	t.Helper()
	l, e := s.Come(p)
	if e != api.OK {
		t.Fatal(p, e)
	}
	return l
}

func write(t *testing.T, s *stream.Stream, b string) []api.Part {
	t.Helper()
	l, e := s.Write([]byte(b))
	if e != api.OK {
		t.Fatal(e)
	}
	return l
}

func tick(t *testing.T, s *stream.Stream) []api.Part {
	t.Helper()
	l, e := s.Tick()
	if e != api.OK {
		t.Fatal(e)
	}
	return l
}

func closes(t *testing.T, s *stream.Stream) []api.Part {
	t.Helper()
	l, e := s.Close()
	if e != api.OK {
		t.Fatal(e)
	}
	return l
}

func at(t *testing.T, s *stream.Stream, where api.StreamAt, broken bool) {
	t.Helper()
	if x := s.State(); x.At != where || x.Broken != broken {
		t.Fatal(x.At, x.Broken)
	}
}

// opened is an end of ISN 100 that called, and was answered by one of ISN 500 with that room.
func opened(t *testing.T, room uint16) *stream.Stream {
	t.Helper()
	s, l := stream.New(100, true)
	sends(t, l, part(syn, 100, 0, 1024, ""))
	sends(t, come(t, s, part(synAck, 500, 101, room, "")), part(ack, 101, 501, 1024, ""))
	at(t, s, api.StreamOpen, false)
	return s
}

// P16.1: how ends begin, and open.
func TestOpening(t *testing.T) {
	s := opened(t, 1024)
	sends(t, write(t, s, "ab"), part(ack, 101, 501, 1024, "ab"))

	l, none := stream.New(500, false)
	sends(t, none)
	at(t, l, api.StreamListen, false)
	for _, p := range []api.Part{part(ack, 1, 501, 9, ""), part(synAck, 1, 501, 9, ""), part(rst|ack, 1, 501, 9, ""), part(fin, 1, 1, 1, ""), part(0, 1, 1, 1, "x")} {
		sends(t, come(t, l, p))
		at(t, l, api.StreamListen, false)
	}
	sends(t, come(t, l, part(syn, 100, 0, 1024, "")), part(synAck, 500, 101, 1024, ""))
	at(t, l, api.StreamHeard, false)
	if l.State().Peer != 100 {
		t.Error(l.State().Peer)
	}
	sends(t, come(t, l, part(syn, 300, 0, 1024, "")), part(synAck, 500, 301, 1024, "")) // another Syn
	for _, p := range []api.Part{part(ack, 301, 500, 9, ""), part(synAck, 301, 501, 9, ""), part(synAck, 300, 500, 9, ""), part(0, 301, 501, 9, ""), part(rst, 300, 501, 9, "")} {
		sends(t, come(t, l, p))
		at(t, l, api.StreamHeard, false)
	}
	o := l.Copy()
	sends(t, come(t, o, part(ack, 301, 501, 7, "hi")), part(ack, 501, 303, 1022, "")) // it opens, and is as one that is open
	at(t, o, api.StreamOpen, false)
	if w := o.State().Window; w.Limit != 7 {
		t.Error(w)
	}
	o = l.Copy()
	sends(t, come(t, o, part(synAck, 300, 501, 7, "")), part(ack, 501, 301, 1024, ""))
	at(t, o, api.StreamOpen, false)
	o = l.Copy()
	sends(t, come(t, o, part(rst, 301, 0, 7, "")))
	at(t, o, api.StreamDone, true)
}

// P16.1: who calls.
func TestCalls(t *testing.T) {
	s, _ := stream.New(100, true)
	for _, p := range []api.Part{part(synAck, 500, 100, 9, ""), part(synAck|fin, 500, 101, 9, ""), part(ack, 500, 101, 9, ""), part(rst|ack, 500, 100, 9, ""), part(rst, 500, 101, 9, ""), part(syn|fin, 5, 5, 5, "")} {
		sends(t, come(t, s, p))
		at(t, s, api.StreamCalls, false)
	}
	o := s.Copy()
	sends(t, come(t, o, part(rst|ack, 7, 101, 9, "")))
	at(t, o, api.StreamDone, true)
	// Both call.
	other, _ := stream.New(900, true)
	x := come(t, s, part(syn, 900, 0, 1024, ""))
	y := come(t, other, part(syn, 100, 0, 1024, ""))
	sends(t, x, part(synAck, 100, 901, 1024, ""))
	at(t, s, api.StreamHeard, false)
	sends(t, come(t, s, y[0]), part(ack, 101, 901, 1024, ""))
	sends(t, come(t, other, x[0]), part(ack, 901, 101, 1024, ""))
	at(t, s, api.StreamOpen, false)
	at(t, other, api.StreamOpen, false)
}

// P16.1: what comes to one that is open.
func TestOpen(t *testing.T) {
	s := opened(t, 10)
	sends(t, write(t, s, "0123456789abc"), part(ack, 101, 501, 1024, "0123456789"))
	sends(t, come(t, s, part(0, 501, 111, 99, "no Ack")))
	sends(t, come(t, s, part(syn, 501, 111, 99, "xx")), part(ack, 111, 501, 1024, ""))
	sends(t, come(t, s, part(rst, 502, 111, 99, "")))
	sends(t, come(t, s, part(ack, 501, 112, 99, ""))) // what was not sent is not acknowledged
	if w := s.State().Window; w.Acked != 0 || w.Limit != 10 {
		t.Error(w)
	}
	sends(t, come(t, s, part(ack, 501, 105, 10, "")), part(ack, 111, 501, 1024, "abc"))
	if w := s.State().Window; w != (api.Window{Acked: 4, Sent: 13, Most: 13, Limit: 14}) {
		t.Error(w)
	}
	sends(t, come(t, s, part(ack, 501, 103, 90, ""))) // an elder place
	if w := s.State().Window; w.Acked != 4 || w.Limit != 14 {
		t.Error(w)
	}
	// Data in order, doubled, too early, beyond what it takes.
	sends(t, come(t, s, part(ack, 501, 105, 10, "ab")), part(ack, 114, 503, 1022, ""))
	sends(t, come(t, s, part(ack, 501, 105, 10, "ab")), part(ack, 114, 503, 1022, ""))
	sends(t, come(t, s, part(ack, 505, 105, 10, "ef")), part(ack, 114, 503, 1020, ""))
	sends(t, come(t, s, part(ack, 502, 105, 10, "bcd")), part(ack, 114, 507, 1018, ""))
	b, l := s.Read()
	if string(b) != "abcdef" || len(l) != 0 || s.State().Unread != 0 || s.State().Took != 6 {
		t.Error(string(b), l)
	}
	sends(t, come(t, s, part(ack, 507+1023, 105, 10, "z")), part(ack, 114, 507, 1023, ""))
	sends(t, come(t, s, part(ack, 507+1023, 105, 10, "zz")), part(ack, 114, 507, 1023, "")) // beyond Buffer
	sends(t, come(t, s, part(ack, 507, 105, 10, "ghi")), part(ack, 114, 510, 1020, ""))
	// A reset of the number that is awaited.
	o := s.Copy()
	sends(t, come(t, o, part(rst|ack, 510, 0, 0, "")))
	at(t, o, api.StreamDone, true)
	sends(t, come(t, o, part(ack|fin, 510, 105, 10, "x"))) // it is broken: it answers nothing
	sends(t, come(t, s, part(rst|syn, 511, 0, 0, "")))
	at(t, s, api.StreamOpen, false)
}

// P16.1: parts are at most MaxData bytes, bytes wait for room; how many may wait.
func TestWrite(t *testing.T) {
	s := opened(t, 150)
	text := bytes.Repeat([]byte("q"), api.MaxBuffer)
	l, e := s.Write(text[:4000])
	if e != api.OK {
		t.Fatal(e)
	}
	sends(t, l, part(ack, 101, 501, 1024, string(text[:64])), part(ack, 165, 501, 1024, string(text[:64])), part(ack, 229, 501, 1024, string(text[:22])))
	if l, e := s.Write(text[:97]); l != nil || e != api.ErrLong || s.State().Written != 4000 {
		t.Error(l, e)
	}
	if _, e := s.Write(text[:96]); e != api.OK || s.State().Written != 4096 {
		t.Error(e)
	}
	sends(t, come(t, s, part(ack, 501, 101+64, 86, ""))) // room as ahead
	if _, e := s.Write(text[:64]); e != api.OK {
		t.Error(e)
	}
	if _, e := s.Write(text[:1]); e != api.ErrLong {
		t.Error(e)
	}
	if l, e := s.Write(nil); e != api.OK || len(l) != 0 {
		t.Error(l, e)
	}
	sends(t, come(t, s, part(ack, 501, 101+64, 87, "")), part(ack, 251, 501, 1024, "q"))
	// Bytes that are written ahead of being open wait.
	c, _ := stream.New(7, true)
	b := []byte("early")
	if l, e := c.Write(b); e != api.OK || len(l) != 0 {
		t.Error(l, e)
	}
	b[0] = 'x'
	sends(t, come(t, c, part(synAck, 9, 8, 3, "")), part(ack, 8, 10, 1024, ""), part(ack, 8, 10, 1024, "ear"))
	for i, p := range []api.Part{{Flags: -1}, {Flags: 16}, {Data: text[:65]}} {
		before := c.Copy()
		if l, e := c.Come(p); l != nil || e != api.ErrArg || !stream.Same(c, before) {
			t.Error(i, l, e)
		}
	}
}

// P16.1: closing, from both sides; what is sent again when one is done.
func TestClose(t *testing.T) {
	s := opened(t, 3)
	write(t, s, "abcd")
	sends(t, closes(t, s))
	if _, e := s.Close(); e != api.ErrDone {
		t.Error(e)
	}
	if _, e := s.Write([]byte("x")); e != api.ErrDone {
		t.Error(e)
	}
	if !s.State().Closing {
		t.Error("Closing")
	}
	sends(t, come(t, s, part(ack, 501, 104, 9, "")), part(ack, 104, 501, 1024, "d"), part(fin|ack, 105, 501, 1024, ""))
	sends(t, come(t, s, part(fin|ack, 501, 104, 9, "yz")), part(ack, 106, 504, 1022, ""))
	at(t, s, api.StreamOpen, false)
	if !s.State().Ended {
		t.Error("Ended")
	}
	sends(t, come(t, s, part(fin|ack, 503, 104, 9, "")), part(ack, 106, 504, 1022, "")) // once more
	sends(t, come(t, s, part(ack, 504, 105, 9, "")))
	at(t, s, api.StreamOpen, false)
	sends(t, come(t, s, part(ack, 504, 106, 9, "")))
	at(t, s, api.StreamDone, false)
	if b, l := s.Read(); string(b) != "yz" || len(l) != 0 {
		t.Error(string(b), l)
	}
	sends(t, come(t, s, part(fin|ack, 503, 106, 9, "")), part(ack, 106, 504, 1024, ""))
	sends(t, come(t, s, part(ack, 501, 106, 9, "yz")), part(ack, 106, 504, 1024, ""))
	sends(t, come(t, s, part(ack, 504, 106, 9, "")))
	sends(t, come(t, s, part(syn|ack, 501, 106, 9, "yz")))
	sends(t, come(t, s, part(fin, 503, 106, 9, "")))
	sends(t, come(t, s, part(rst|ack, 504, 106, 9, "yz")))
	at(t, s, api.StreamDone, false)
	for range 100 {
		sends(t, tick(t, s))
	}
	for i, f := range []func() ([]api.Part, api.Errno){s.Close, s.Reset, func() ([]api.Part, api.Errno) { return s.Write(nil) }} {
		if l, e := f(); l != nil || e != api.ErrDone {
			t.Error(i, l, e)
		}
	}
	// An end that comes too early is known, and taken when all is there.
	s = opened(t, 3)
	sends(t, come(t, s, part(fin|ack, 503, 101, 3, "")), part(ack, 101, 501, 1024, ""))
	if s.State().Ended {
		t.Error("Ended")
	}
	sends(t, come(t, s, part(ack, 501, 101, 3, "ab")), part(ack, 101, 504, 1022, ""))
	sends(t, closes(t, s), part(fin|ack, 101, 504, 1022, ""))
	sends(t, come(t, s, part(ack, 504, 102, 3, "")))
	at(t, s, api.StreamDone, false)
}

// P16.1: resets.
func TestReset(t *testing.T) {
	l, _ := stream.New(5, false)
	c, _ := stream.New(5, true)
	h := l.Copy()
	come(t, h, part(syn, 40, 0, 9, ""))
	o := opened(t, 2)
	write(t, o, "abc")
	f := opened(t, 20)
	closes(t, f)
	for i, r := range []struct {
		s    *stream.Stream
		want []api.Part
	}{
		{l, nil}, {c, nil}, {h, []api.Part{part(rst|ack, 6, 41, 1024, "")}},
		{o, []api.Part{part(rst|ack, 103, 501, 1024, "")}},
		{f, []api.Part{part(rst|ack, 102, 501, 1024, "")}},
	} {
		got, e := r.s.Reset()
		if e != api.OK {
			t.Error(i, e)
		}
		sends(t, got, r.want...)
		at(t, r.s, api.StreamDone, true)
		if _, e := r.s.Reset(); e != api.ErrDone {
			t.Error(i, e)
		}
		for range 50 {
			sends(t, tick(t, r.s))
		}
	}
}

// P16.1: what is sent again, when, and how often.
func TestTick(t *testing.T) {
	again := func(s *stream.Stream, p ...api.Part) {
		t.Helper()
		for _, wait := range []int{2, 4, 8, 16, 32, 32, 32, 32} {
			for range wait - 1 {
				sends(t, tick(t, s))
			}
			sends(t, tick(t, s), p...)
		}
		for range 31 {
			sends(t, tick(t, s))
			if s.State().At == api.StreamDone {
				t.Fatal("it gives up too early")
			}
		}
		sends(t, tick(t, s))
		at(t, s, api.StreamDone, true)
	}
	c, _ := stream.New(100, true)
	again(c, part(syn, 100, 0, 1024, ""))
	h, _ := stream.New(100, false)
	for range 100 {
		sends(t, tick(t, h)) // who listens waits for nothing
	}
	come(t, h, part(syn, 40, 0, 9, ""))
	again(h, part(synAck, 100, 41, 1024, ""))
	o := opened(t, 80)
	text := bytes.Repeat([]byte("w"), 90)
	write(t, o, string(text))
	again(o, part(ack, 101, 501, 1024, string(text[:64])))
	o = opened(t, 80)
	write(t, o, "ab")
	closes(t, o)
	again(o, part(ack, 101, 501, 1024, "ab"))
	o = opened(t, 80)
	closes(t, o)
	again(o, part(fin|ack, 101, 501, 1024, ""))
	o = opened(t, 0)
	sends(t, write(t, o, "ab"))
	again(o, part(ack, 101, 501, 1024, "a")) // one byte is probed
	// What is acknowledged stops the clock; what is left starts it anew.
	o = opened(t, 80)
	write(t, o, "ab")
	sends(t, tick(t, o))
	come(t, o, part(ack, 501, 102, 80, ""))
	sends(t, tick(t, o))
	sends(t, tick(t, o), part(ack, 102, 501, 1024, "b"))
	come(t, o, part(ack, 501, 103, 80, ""))
	for range 200 {
		sends(t, tick(t, o))
	}
	at(t, o, api.StreamOpen, false)
}

// P16.1: the clock learns how long answers take; of what was sent again it learns nothing.
func TestTimed(t *testing.T) {
	s := opened(t, 80)
	write(t, s, "ab")
	tick(t, s)
	if s.State().Wait != 2 {
		t.Error(s.State().Wait)
	}
	come(t, s, part(ack, 501, 103, 80, ""))
	if s.State().Wait != 1+2 {
		t.Error(s.State().Wait)
	}
	write(t, s, "cd")
	for range 3 {
		tick(t, s)
	}
	if s.State().Wait != 6 {
		t.Error(s.State().Wait)
	}
	come(t, s, part(ack, 501, 105, 80, ""))
	if s.State().Wait != 1+2 {
		t.Error(s.State().Wait)
	}
}

// P16.1: a shut window, probed, opened; the room that is told behind a Read.
func TestShut(t *testing.T) {
	a, l := stream.New(100, true)
	b, _ := stream.New(500, false)
	go1 := func(s *stream.Stream, l []api.Part) []api.Part {
		var out []api.Part
		for _, p := range l {
			out = append(out, come(t, s, p)...)
		}
		return out
	}
	l = go1(a, go1(b, l))
	go1(b, l)
	text := make([]byte, 1500)
	for i := range text {
		text[i] = byte(i)
	}
	l, e := a.Write(text)
	if e != api.OK || len(l) != 16 {
		t.Fatal(len(l), e)
	}
	l = go1(b, l)
	if x := b.State(); x.Unread != 1024 || l[15].Window != 0 || l[14].Window != 64 {
		t.Fatal(x, l[15].Window)
	}
	if l = go1(a, l); len(l) != 0 {
		t.Fatal(l)
	}
	for range 3 {
		tick(t, a)
	}
	if w := a.State().Window; w.Most != 1025 || w.Sent != 1024 || w.Acked != 1024 {
		t.Fatal(w)
	}
	got, told := b.Read()
	if !bytes.Equal(got, text[:1024]) {
		t.Fatal(len(got))
	}
	sends(t, told, part(ack, 501, 101+1024, 1024, ""))
	if _, told := b.Read(); len(told) != 0 {
		t.Error("the room is told once")
	}
	l = go1(a, told)
	if len(l) != 8 || l[0].Seq != 101+1024 {
		t.Fatal(len(l))
	}
	go1(a, go1(b, l))
	got, _ = b.Read()
	if !bytes.Equal(got, text[1024:]) || a.State().Window.Acked != 1500 {
		t.Error(len(got), a.State().Window)
	}
}

// P16.2: what is read, copies, what is the same, none.
func TestReadCopySame(t *testing.T) {
	s := opened(t, 9)
	data := []byte("ab")
	come(t, s, api.Part{Flags: ack, Seq: 501, Ack: 101, Data: data})
	data[0] = 'x'
	c := s.Copy()
	if !stream.Same(s, c) {
		t.Error("a copy")
	}
	b, _ := c.Read()
	b[0] = 'y'
	if again, _ := s.Read(); string(again) != "ab" || !stream.Same(s, c) {
		t.Error(string(again))
	}
	write(t, c, "cd")
	if stream.Same(s, c) || s.State().Written != 0 {
		t.Error("a copy goes on apart")
	}
	write(t, s, "ce")
	if stream.Same(s, c) {
		t.Error("other bytes")
	}
	x, y := opened(t, 9), opened(t, 9)
	tick(t, x)
	if stream.Same(x, y) {
		t.Error("another tick")
	}
	for _, none := range []*stream.Stream{nil, {}} {
		_, e1 := none.Come(api.Part{Flags: -1})
		_, e2 := none.Write(nil)
		_, e3 := none.Close()
		_, e4 := none.Reset()
		_, e5 := none.Tick()
		b, l := none.Read()
		for i, e := range []api.Errno{e1, e2, e3, e4, e5} {
			if e != api.ErrNil {
				t.Error(i, e)
			}
		}
		if b != nil || l != nil || none.State() != (api.Stream{}) || none.Copy() != nil {
			t.Error("none answers")
		}
		if stream.Same(none, s) || stream.Same(s, none) || !stream.Same(none, nil) || !stream.Same(nil, none) {
			t.Error("a nil one is like a nil one alone")
		}
	}
	l, _ := stream.New(9, false)
	if x := l.State(); x.At != api.StreamListen || x.Wait != 2 || x.Peer != 0 {
		t.Error(x)
	}
}

// P16.1: one Ack of the last bytes and of the end together.
func TestAckOfAll(t *testing.T) {
	s := opened(t, 80)
	write(t, s, "abc")
	sends(t, closes(t, s), part(fin|ack, 104, 501, 1024, ""))
	sends(t, come(t, s, part(ack, 501, 105, 70, "")))
	if w := s.State().Window; w != (api.Window{Acked: 3, Sent: 3, Most: 3, Limit: 80}) {
		t.Error(w)
	}
	for range 400 { // nothing is waited for any more
		sends(t, tick(t, s))
	}
	sends(t, come(t, s, part(fin|ack, 501, 105, 70, "")), part(ack, 105, 502, 1024, ""))
	at(t, s, api.StreamDone, false)
	sends(t, come(t, s, part(ack, 501, 105, 70, "x")), part(ack, 105, 502, 1024, ""))
	sends(t, come(t, s, part(15, 501, 105, 70, "x")))
}

// P16.1: where nothing is waited for, no clock runs; where one byte waits, one does.
func TestWaits(t *testing.T) {
	for _, room := range []uint16{0, 9} {
		s := opened(t, room)
		for range 400 {
			sends(t, tick(t, s))
		}
		at(t, s, api.StreamOpen, false)
		if w := s.State().Window; w.Most != 0 {
			t.Error(w)
		}
	}
	s := opened(t, 0)
	sends(t, write(t, s, "a"))
	sends(t, tick(t, s))
	sends(t, tick(t, s), part(ack, 101, 501, 1024, "a"))
	// It is acknowledged, and no room is there: the next byte waits anew.
	sends(t, come(t, s, part(ack, 501, 102, 0, "")))
	for range 400 {
		sends(t, tick(t, s))
	}
	sends(t, write(t, s, "b"))
	sends(t, tick(t, s))
	sends(t, tick(t, s), part(ack, 102, 501, 1024, "b"))
}

// P16.1: when it opens, the clock stops: what was written ahead of that is tried anew as long behind it.
func TestOpensClock(t *testing.T) {
	s, _ := stream.New(100, true)
	write(t, s, "a")
	sends(t, tick(t, s))
	sends(t, come(t, s, part(synAck, 500, 101, 9, "")), part(ack, 101, 501, 1024, ""), part(ack, 101, 501, 1024, "a"))
	sends(t, tick(t, s))
	sends(t, tick(t, s), part(ack, 101, 501, 1024, "a"))
	// An answer at once: the clock waits a tick at least.
	s = opened(t, 9)
	write(t, s, "a")
	come(t, s, part(ack, 501, 102, 9, ""))
	if s.State().Wait != 1 {
		t.Error(s.State().Wait)
	}
	// What ends stops its clock.
	s, _ = stream.New(100, true)
	tick(t, s)
	tick(t, s)
	if s.State().Wait != 4 {
		t.Error(s.State().Wait)
	}
	if _, e := s.Reset(); e != api.OK || s.State().Wait != 2 {
		t.Error(e, s.State().Wait)
	}
}

// P16.1: who is not open yet sends no end; all flags may come.
func TestCloseEarly(t *testing.T) {
	for _, calls := range []bool{false, true} {
		s, _ := stream.New(100, calls)
		sends(t, closes(t, s))
		sends(t, come(t, s, part(15, 1, 2, 3, "all flags")))
		if _, e := s.Write([]byte("x")); e != api.ErrDone {
			t.Error(e)
		}
		if !calls {
			sends(t, come(t, s, part(syn, 500, 0, 9, "")), part(synAck, 100, 501, 1024, ""))
		}
		sends(t, come(t, s, part(synAck, 500, 101, 9, "")), part(ack, 101, 501, 1024, ""), part(fin|ack, 101, 501, 1024, ""))
	}
}
