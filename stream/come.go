package stream

import (
	"pursuivant/api"
)

// leads is, by where the end is, what a part that comes does.
func (s *Stream) leads() [api.StreamDone + 1]func(p api.Part) []api.Part {
	return [...]func(p api.Part) []api.Part{
		api.StreamListen: s.listens,
		api.StreamCalls:  s.calls,
		api.StreamHeard:  s.heard,
		api.StreamOpen:   s.open,
		api.StreamDone:   s.done,
	}
}

// Come takes a part.
func (s *Stream) Come(p api.Part) ([]api.Part, api.Errno) {
	var parts []api.Part
	e := api.ErrNil
	if s.none() {
		goto refused
	}
	if e = api.ErrArg; p.Flags < 0 || p.Flags > allFlags || len(p.Data) > api.MaxData {
		goto refused
	}
	parts = s.leads()[s.at](p)
	parts = append(parts, s.send()...)
	s.mind()
	return parts, api.OK
refused:
	return nil, e
}

// hears: the peer's ISN is known.
func (s *Stream) hears(p api.Part) []api.Part {
	s.peer, s.at = p.Seq, api.StreamHeard
	return []api.Part{s.synAck()}
}

// opens: it is open, by the part's Window.
func (s *Stream) opens(p api.Part) {
	s.at = api.StreamOpen
	s.window.Ack(0, int(p.Window))
	s.clock.Stop()
}

func (s *Stream) listens(p api.Part) []api.Part {
	if p.Flags != api.Syn {
		return nil
	}
	return s.hears(p)
}

func (s *Stream) calls(p api.Part) []api.Part {
	right := p.Ack == s.isn+1
	switch {
	case p.Flags == api.Syn:
		return s.hears(p)
	case p.Flags == api.Syn|api.Ack && right:
		s.peer = p.Seq
		s.opens(p)
		return []api.Part{s.answer()}
	case p.Flags == api.Rst|api.Ack && right:
		s.breaks()
	}
	return nil
}

func (s *Stream) heard(p api.Part) []api.Part {
	has := asked(p.Flags)
	right := p.Ack == s.isn+1
	switch {
	case p.Flags == api.Syn:
		return s.hears(p)
	case p.Flags == api.Syn|api.Ack && p.Seq == s.peer && right:
		s.opens(p)
		return []api.Part{s.answer()}
	case has(api.Rst):
		return s.open(p)
	case has(api.Ack) && !has(api.Syn) && right:
		s.opens(p)
		return s.open(p)
	}
	return nil
}

func (s *Stream) open(p api.Part) []api.Part {
	has := asked(p.Flags)
	switch {
	case has(api.Rst):
		if p.Seq == s.awaited() {
			s.breaks()
		}
		return nil
	case has(api.Syn):
		return []api.Part{s.answer()}
	case !has(api.Ack):
		return nil
	}
	s.acked(p)
	if !s.ended {
		s.take(p)
	}
	if has(api.Fin) || len(p.Data) > 0 {
		return []api.Part{s.answer()}
	}
	return nil
}

func (s *Stream) done(p api.Part) []api.Part {
	has := asked(p.Flags)
	if has(api.Ack) && !has(api.Syn) && !has(api.Rst) && (has(api.Fin) || len(p.Data) > 0) && !s.broken {
		return []api.Part{s.answer()}
	}
	return nil
}

// acked is what a part acknowledges.
func (s *Stream) acked(p api.Part) {
	place, e := placed(s.isn)(p.Ack, s.window.State().Acked)
	if e != api.OK {
		return
	}
	ends := false
	if s.endSent && place == s.written+1 {
		ends = !s.endAcked
		s.endAcked = true
		place = s.written
	}
	more, _ := s.window.Ack(place, int(p.Window))
	s.own = s.own[more:]
	if !ends && more == 0 {
		return
	}
	if s.timed.is && s.window.State().Acked >= s.timed.place {
		s.clock.Sample(s.now - s.timed.since)
		s.timed = timing{}
	}
	s.clock.Stop()
}

// take takes a part's Data, and its end.
func (s *Stream) take(p api.Part) {
	next := s.heap.Next()
	place, e := placed(s.peer)(p.Seq, next)
	if e != api.OK {
		return
	}
	end := place + int64(len(p.Data))
	if p.Flags&api.Fin != 0 {
		s.heap.End(end)
	}
	if len(p.Data) > 0 && end-next <= int64(buffer-len(s.unread)) {
		told, _ := s.heap.Put(place, p.Data)
		s.unread = append(s.unread, told...)
	}
	s.ended = s.heap.Done()
}
