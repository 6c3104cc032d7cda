package fsm

import (
	"pursuivant/api"
	"pursuivant/msg"
	"pursuivant/open"
)

// await: a stream is awaited.
func (f *Fsm) await() []api.Deed {
	f.at, f.left[retry] = api.FsmActive, f.peering.Retry
	return []api.Deed{deed(api.DeedListen)}
}

// call: a stream is called.
func (f *Fsm) call() []api.Deed {
	f.at, f.left[retry] = api.FsmConnect, f.peering.Retry
	return []api.Deed{deed(api.DeedCall)}
}

func (f *Fsm) callOrAwait() []api.Deed {
	if f.peering.Passive {
		return f.await()
	}
	return f.call()
}

func (f *Fsm) start(api.Stir) []api.Deed {
	if f.at != api.FsmIdle {
		return nil
	}
	return f.callOrAwait()
}

func (f *Fsm) stop(api.Stir) []api.Deed {
	switch {
	case f.at == api.FsmIdle:
		return nil
	case f.at >= api.FsmOpenSent:
		fall(6, 2)
	}
	panic(silent{})
}

func (f *Fsm) up(api.Stir) []api.Deed {
	if f.at != api.FsmConnect && f.at != api.FsmActive {
		return nil
	}
	f.at, f.left = api.FsmOpenSent, [clocks]int{hold: firstHold}
	return []api.Deed{say(opening(f.peering.Own))}
}

func (f *Fsm) down(api.Stir) []api.Deed {
	switch f.at {
	case api.FsmConnect, api.FsmOpenSent:
		f.left = [clocks]int{}
		return f.await()
	case api.FsmOpenConfirm, api.FsmEstablished:
		panic(silent{})
	}
	return nil
}

func (f *Fsm) flaw(s api.Stir) []api.Deed {
	if f.at >= api.FsmOpenSent {
		n, _ := msg.NoticeOf(s.Flaw)
		fall(n.Code, n.Sub)
	}
	return nil
}

func (f *Fsm) message(s api.Stir) []api.Deed {
	m := s.Message
	if f.at < api.FsmOpenSent {
		return nil
	}
	if m.Kind == api.MsgNotice {
		panic(silent{})
	}
	switch f.at {
	case api.FsmOpenSent:
		return f.atOpenSent(m)
	case api.FsmOpenConfirm:
		return f.atOpenConfirm(m)
	}
	return f.atEstablished(m)
}

func (f *Fsm) holdAnew() { f.left[hold] = int(f.session.Hold) }

func (f *Fsm) keepAnew() { f.left[keep] = int(f.session.Hold) / keepParts }

func (f *Fsm) atOpenSent(m api.Message) []api.Deed {
	switch {
	case m.Kind != api.MsgOpen:
		fall(5, 1)
	case m.Open.As != f.peering.PeerAs:
		fall(2, 2)
	case m.Open.Id == f.peering.Own.Id:
		fall(2, 3)
	}
	f.session, _ = open.Meet(f.peering.Own, m.Open)
	f.at = api.FsmOpenConfirm
	f.holdAnew()
	f.keepAnew()
	return []api.Deed{sayKeep()}
}

func (f *Fsm) atOpenConfirm(m api.Message) []api.Deed {
	if m.Kind != api.MsgKeep {
		fall(5, 2)
	}
	f.at = api.FsmEstablished
	f.holdAnew()
	return []api.Deed{{Kind: api.DeedOpen, Session: copiedSession(f.session)}}
}

func (f *Fsm) atEstablished(m api.Message) []api.Deed {
	if m.Kind == api.MsgOpen {
		fall(5, 3)
	}
	f.holdAnew()
	if m.Kind == api.MsgKeep {
		return nil
	}
	return []api.Deed{{Kind: api.DeedUpdate, Message: copied(m)}}
}

func (f *Fsm) tick(api.Stir) []api.Deed {
	run := func(clock *int) bool {
		if *clock == 0 {
			return false
		}
		*clock--
		return *clock == 0
	}
	var came [clocks]bool
	for i := range f.left {
		came[i] = run(&f.left[i])
	}
	if came[hold] {
		fall(4, 0)
	}
	var deeds []api.Deed
	if came[retry] {
		deeds = append(deeds, f.retries()...)
	}
	if came[keep] {
		deeds = append(deeds, sayKeep())
		f.keepAnew()
	}
	return deeds
}

// retries: it was called, or awaited, for too long.
func (f *Fsm) retries() []api.Deed {
	switch f.at {
	case api.FsmConnect:
		return append([]api.Deed{deed(api.DeedDrop)}, f.call()...)
	case api.FsmActive:
		return f.callOrAwait()
	}
	return nil
}
