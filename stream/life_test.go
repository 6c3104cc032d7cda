package stream_test

import (
	"bytes"
	"testing"

	"pursuivant/api"
	"pursuivant/stream"
)

type picks uint32

func (p *picks) pick(n int) int {
	*p = *p*1664525 + 1013904223
	return int(uint32(*p) >> 10 % uint32(n))
}

// side is an end, what was written to it, what it read, and what is on its way to it.
type side struct {
	end           *stream.Stream
	written, read []byte
	coming        []api.Part
}

type life struct {
	t     *testing.T
	picks picks
	sides [2]side
}

func (l *life) send(from int, parts []api.Part) {
	to := &l.sides[1-from]
	to.coming = append(to.coming, parts...)
}

func (l *life) come(to, at int, stays bool) {
	s := &l.sides[to]
	p := s.coming[at]
	if !stays {
		s.coming = append(s.coming[:at:at], s.coming[at+1:]...)
	}
	l.send(to, come(l.t, s.end, p))
}

func (l *life) write(i, n int) {
	s := &l.sides[i]
	b := make([]byte, n)
	for j := range b {
		b[j] = byte(len(s.written)+j)*7 + byte(i)
	}
	parts, e := s.end.Write(b)
	if e == api.OK {
		s.written = append(s.written, b...)
	}
	l.send(i, parts)
}

func (l *life) read(i int) {
	s := &l.sides[i]
	b, parts := s.end.Read()
	s.read = append(s.read, b...)
	l.send(i, parts)
	if !bytes.HasPrefix(l.sides[1-i].written, s.read) {
		l.t.Fatal("what is read is no beginning of what was written")
	}
}

func (l *life) bounds(i int) {
	x := l.sides[i].end.State()
	if x.Unread > 1024 || x.Written-x.Window.Acked > api.MaxBuffer {
		l.t.Fatal("beyond a bound", x)
	}
}

// wild does something, as it is picked.
func (l *life) wild() {
	i := l.picks.pick(2)
	s := &l.sides[i]
	n := len(s.coming)
	switch what := l.picks.pick(20); {
	case what < 9 && n > 0:
		l.come(i, l.picks.pick(min(n, 5)), false)
	case what < 11 && n > 0:
		l.come(i, l.picks.pick(n), true)
	case what < 12 && n > 0:
		at := l.picks.pick(n)
		s.coming = append(s.coming[:at:at], s.coming[at+1:]...)
	case what < 14:
		l.send(i, tick(l.t, s.end))
	case what < 17:
		l.write(i, l.picks.pick(200))
	case what < 19:
		l.read(i)
	}
	l.bounds(i)
}

// calm lets all come, in order, with ticks and reads.
func (l *life) calm(rounds int) {
	for range rounds {
		for i := range l.sides {
			for len(l.sides[i].coming) > 0 {
				l.come(i, 0, false)
			}
			l.read(i)
			l.send(i, tick(l.t, l.sides[i].end))
		}
	}
}

func (l *life) broken() bool {
	return l.sides[0].end.State().Broken || l.sides[1].end.State().Broken
}

// P16.3: whatever is lost, doubled, put off: what is read is a beginning; in the end it is all of it.
func TestLives(t *testing.T) {
	whole := 0
	for seed := range 400 {
		l := &life{t: t, picks: picks(seed * 7919)}
		for i := range l.sides {
			calls := i == 0 || seed%3 == 0
			end, parts := stream.New(uint32(1<<32-300+1000*i+seed), calls)
			l.sides[i].end = end
			l.send(i, parts)
		}
		for range 600 {
			l.wild()
		}
		l.calm(200)
		if l.broken() {
			continue
		}
		closing := make([]bool, 2)
		for i := range l.sides {
			if parts, e := l.sides[i].end.Close(); e == api.OK {
				closing[i] = true
				l.send(i, parts)
			}
		}
		l.calm(300)
		if l.broken() {
			t.Fatal(seed, "broken, while all came in order")
		}
		for i := range l.sides {
			x := l.sides[i].end.State()
			if !closing[i] || x.At != api.StreamDone || !bytes.Equal(l.sides[i].read, l.sides[1-i].written) {
				t.Fatal(seed, i, x, len(l.sides[i].read), len(l.sides[1-i].written))
			}
		}
		whole++
	}
	if whole < 300 {
		t.Error("few lives came to their end: ", whole)
	}
}

// P16.3: whatever parts come, forged ones, too: no call panics, and nothing grows beyond its bound.
func TestAnything(t *testing.T) {
	for seed := range 300 {
		p := picks(seed * 104729)
		isn := uint32(p.pick(3)) * 0x7fffffff
		s, _ := stream.New(isn, seed%2 == 0)
		near := func(of uint32) uint32 { return of + uint32(p.pick(60)) - 20 }
		for range 400 {
			x := s.State()
			part := api.Part{Flags: api.Flags(p.pick(16)), Seq: near(x.Peer + uint32(x.Took)), Ack: near(isn + uint32(x.Window.Acked)), Window: uint16(p.pick(200)), Data: make([]byte, p.pick(65))}
			switch p.pick(12) {
			case 0:
				part.Seq, part.Ack = uint32(p.pick(1<<22))<<10, uint32(p.pick(1<<22))<<10
			case 1:
				part.Window = uint16(p.pick(1 << 16))
			case 2:
				s.Write(make([]byte, p.pick(2000)))
			case 3:
				s.Read()
			case 4:
				s.Tick()
			case 5:
				if p.pick(20) == 0 {
					s.Close()
				}
			}
			if p.pick(3) > 0 {
				part.Flags = api.Ack
			}
			if part.Flags&api.Rst != 0 && p.pick(4) > 0 {
				part.Flags &^= api.Rst
			}
			parts, e := s.Come(part)
			if e != api.OK {
				t.Fatal(e)
			}
			for _, q := range parts {
				if len(q.Data) > api.MaxData || q.Window > 1024 {
					t.Fatal(q)
				}
			}
			now := s.State()
			w := now.Window
			if now.Unread > 1024 || now.Written-w.Acked > api.MaxBuffer || w.Acked > w.Sent || w.Sent > w.Most || w.Most > now.Written || now.Took < x.Took {
				t.Fatal(seed, now)
			}
			if c := s.Copy(); !stream.Same(c, s) {
				t.Fatal("a copy is another one")
			}
		}
	}
}
