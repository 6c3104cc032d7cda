package fsm_test

import (
	"slices"
	"testing"

	"pursuivant/api"
	"pursuivant/fsm"
	"pursuivant/msg"
)

func peering() api.Peering {
	return api.Peering{Own: api.Open{As: 1, Hold: 90, Id: 10, Caps: []api.Cap{{Code: 2}, {Code: 9, Body: []byte{1}}}}, PeerAs: 2, Retry: 5}
}

func session(t *testing.T, p api.Peering) *fsm.Fsm {
	t.Helper()
	f, e := fsm.New(p)
	if e != api.OK {
		t.Fatal(e)
	}
	return f
}

func say(m api.Message) api.Deed { return api.Deed{Kind: api.DeedSay, Message: m} }

func notice(code, sub uint8) api.Deed {
	return say(api.Message{Kind: api.MsgNotice, Notice: api.Notice{Code: code, Sub: sub}})
}

var (
	call   = api.Deed{Kind: api.DeedCall}
	listen = api.Deed{Kind: api.DeedListen}
	drop   = api.Deed{Kind: api.DeedDrop}
	shut   = api.Deed{Kind: api.DeedClose}
	alive  = say(keeping())
	hello  = say(api.Message{Kind: api.MsgOpen, Open: peering().Own})
)

func keeping() api.Message { return api.Message{Kind: api.MsgKeep} }

func opening(as uint32, hold uint16, id uint32) api.Message {
	return api.Message{Kind: api.MsgOpen, Open: api.Open{As: as, Hold: hold, Id: id, Caps: []api.Cap{{Code: 2}}}}
}

func updating() api.Message {
	return api.Message{Kind: api.MsgUpdate, Update: api.Update{New: []api.Prefix{{Len: 0}}, Attrs: api.Attrs{Next: 4}}}
}

func kind(k api.StirKind) api.Stir { return api.Stir{Kind: k} }

func message(m api.Message) api.Stir { return api.Stir{Kind: api.StirMessage, Message: m} }

func flaw(e api.Errno) api.Stir { return api.Stir{Kind: api.StirFlaw, Flaw: e} }

func sameDeed(a, b api.Deed) bool {
	return a.Kind == b.Kind && msg.Same(a.Message, b.Message) && a.Session.Hold == b.Session.Hold && a.Session.Inner == b.Session.Inner && slices.Equal(a.Session.Caps, b.Session.Caps)
}

func does(t *testing.T, f *fsm.Fsm, s api.Stir, want ...api.Deed) {
	t.Helper()
	got, e := f.Stir(s)
	if e != api.OK || !slices.EqualFunc(got, want, sameDeed) {
		t.Fatalf("%v: %v %v, not %v", s, got, e, want)
	}
}

func stands(t *testing.T, f *fsm.Fsm, at api.FsmAt, retry, hold, keep int) {
	t.Helper()
	if s := f.State(); s.At != at || s.Retry != retry || s.Hold != hold || s.Keep != keep {
		t.Fatal(s)
	}
}

// at is a session that came so far.
func at(t *testing.T, where api.FsmAt) *fsm.Fsm {
	t.Helper()
	p := peering()
	p.Passive = where == api.FsmActive
	f := session(t, p)
	steps := []api.Stir{kind(api.StirStart), kind(api.StirUp), message(opening(2, 9, 20)), message(keeping())}
	n := map[api.FsmAt]int{api.FsmIdle: 0, api.FsmConnect: 1, api.FsmActive: 1, api.FsmOpenSent: 2, api.FsmOpenConfirm: 3, api.FsmEstablished: 4}[where]
	for _, s := range steps[:n] {
		if _, e := f.Stir(s); e != api.OK {
			t.Fatal(e)
		}
	}
	if f.State().At != where {
		t.Fatal(f.State())
	}
	return f
}

var everywhere = []api.FsmAt{api.FsmIdle, api.FsmConnect, api.FsmActive, api.FsmOpenSent, api.FsmOpenConfirm, api.FsmEstablished}

// P22.1: which peerings may be.
func TestNew(t *testing.T) {
	for i, r := range []struct {
		change func(p *api.Peering)
		e      api.Errno
	}{
		{func(p *api.Peering) {}, api.OK},
		{func(p *api.Peering) { p.Own.As = 0 }, api.ErrArg},
		{func(p *api.Peering) { p.Own.Hold = 2 }, api.ErrArg},
		{func(p *api.Peering) { p.Own.Hold = 0 }, api.OK},
		{func(p *api.Peering) {
			p.Own.Caps = []api.Cap{{Code: 1, Body: make([]byte, 100)}, {Code: 2, Body: make([]byte, 100)}, {Code: 3, Body: make([]byte, 42)}}
		}, api.ErrArg},
		{func(p *api.Peering) { p.PeerAs = 0 }, api.ErrArg},
		{func(p *api.Peering) { p.PeerAs = 1 }, api.OK},
		{func(p *api.Peering) { p.Retry = 0 }, api.ErrArg},
		{func(p *api.Peering) { p.Retry = -1 }, api.ErrArg},
		{func(p *api.Peering) { p.Retry = 1 }, api.OK},
		{func(p *api.Peering) { p.Retry = 65535 }, api.OK},
		{func(p *api.Peering) { p.Retry = 65536 }, api.ErrArg},
	} {
		p := peering()
		r.change(&p)
		f, e := fsm.New(p)
		if e != r.e || (f == nil) != (e != api.OK) {
			t.Error(i, f, e)
		}
		if f != nil {
			stands(t, f, api.FsmIdle, 0, 0, 0)
		}
	}
}

// P22.1: the way up, and its clocks.
func TestUp(t *testing.T) {
	f := session(t, peering())
	does(t, f, kind(api.StirStart), call)
	stands(t, f, api.FsmConnect, 5, 0, 0)
	does(t, f, kind(api.StirStart))
	does(t, f, kind(api.StirUp), hello)
	stands(t, f, api.FsmOpenSent, 0, 240, 0)
	does(t, f, kind(api.StirUp))
	does(t, f, message(opening(2, 9, 20)), alive)
	stands(t, f, api.FsmOpenConfirm, 0, 9, 3)
	if s := f.State().Session; s.Hold != 9 || s.Inner || !slices.Equal(s.Caps, []uint8{2}) {
		t.Error(s)
	}
	does(t, f, kind(api.StirTick))
	does(t, f, message(keeping()), api.Deed{Kind: api.DeedOpen, Session: api.Session{Hold: 9, Caps: []uint8{2}}})
	stands(t, f, api.FsmEstablished, 0, 9, 2)
	does(t, f, kind(api.StirTick))
	does(t, f, message(updating()), api.Deed{Kind: api.DeedUpdate, Message: updating()})
	stands(t, f, api.FsmEstablished, 0, 9, 1)
	does(t, f, kind(api.StirTick), alive)
	does(t, f, message(keeping()))
	stands(t, f, api.FsmEstablished, 0, 9, 3)

	p := peering()
	p.Passive = true
	f = session(t, p)
	does(t, f, kind(api.StirStart), listen)
	stands(t, f, api.FsmActive, 5, 0, 0)
	does(t, f, kind(api.StirUp), hello)
	stands(t, f, api.FsmOpenSent, 0, 240, 0)
	// No Hold: no clock runs.
	does(t, f, message(opening(2, 0, 20)), alive)
	stands(t, f, api.FsmOpenConfirm, 0, 0, 0)
	does(t, f, message(keeping()), api.Deed{Kind: api.DeedOpen, Session: api.Session{Caps: []uint8{2}}})
	for range 1000 {
		does(t, f, kind(api.StirTick))
	}
	stands(t, f, api.FsmEstablished, 0, 0, 0)
}

// P22.1: what ends it, wherever it is.
func TestFallBack(t *testing.T) {
	for _, where := range everywhere {
		var end []api.Deed
		if where == api.FsmEstablished {
			end = []api.Deed{shut}
		}
		falls := func(s api.Stir, first ...api.Deed) {
			t.Helper()
			f := at(t, where)
			does(t, f, s, append(append(first, drop), end...)...)
			if s := f.State(); s.At != api.FsmIdle || s.Retry+s.Hold+s.Keep != 0 || s.Session.Hold != 0 || s.Session.Caps != nil {
				t.Error(s)
			}
			for range 300 {
				does(t, f, kind(api.StirTick))
			}
		}
		nothing := func(s api.Stir) {
			t.Helper()
			f, g := at(t, where), at(t, where)
			does(t, f, s)
			if !fsm.Same(f, g) {
				t.Error(where, s)
			}
		}
		switch {
		case where == api.FsmIdle:
			nothing(kind(api.StirStop))
			nothing(kind(api.StirUp))
		case where >= api.FsmOpenSent:
			falls(kind(api.StirStop), notice(6, 2))
			falls(flaw(api.ErrHold), notice(2, 6))
			falls(flaw(api.ErrNew), notice(3, 10))
			falls(message(api.Message{Kind: api.MsgNotice, Notice: api.Notice{Code: 1, Data: []byte{1}}}))
			nothing(kind(api.StirUp))
			nothing(kind(api.StirStart))
		default:
			falls(kind(api.StirStop))
			nothing(kind(api.StirStart))
		}
		if where < api.FsmOpenSent {
			nothing(flaw(api.ErrHold))
			for _, m := range []api.Message{opening(2, 9, 20), updating(), keeping(), {Kind: api.MsgNotice}} {
				nothing(message(m))
			}
		}
		switch where {
		case api.FsmOpenSent:
			falls(message(opening(3, 9, 10)), notice(2, 2))
			falls(message(opening(2, 9, 10)), notice(2, 3))
			falls(message(keeping()), notice(5, 1))
			falls(message(updating()), notice(5, 1))
		case api.FsmOpenConfirm:
			falls(message(opening(2, 9, 20)), notice(5, 2))
			falls(message(updating()), notice(5, 2))
		case api.FsmEstablished:
			falls(message(opening(2, 9, 20)), notice(5, 3))
		}
		switch where {
		case api.FsmIdle, api.FsmActive:
			nothing(kind(api.StirDown))
		case api.FsmConnect, api.FsmOpenSent:
			f := at(t, where)
			does(t, f, kind(api.StirDown), listen)
			stands(t, f, api.FsmActive, 5, 0, 0)
		default:
			falls(kind(api.StirDown))
		}
	}
}

// P22.1: ticks: what each clock does.
func TestTicks(t *testing.T) {
	ticks := func(f *fsm.Fsm, n int) {
		t.Helper()
		for range n {
			does(t, f, kind(api.StirTick))
		}
	}
	f := at(t, api.FsmConnect)
	for range 3 {
		ticks(f, 4)
		does(t, f, kind(api.StirTick), drop, call)
		stands(t, f, api.FsmConnect, 5, 0, 0)
	}
	f = at(t, api.FsmActive) // it is passive
	ticks(f, 4)
	does(t, f, kind(api.StirTick), listen)
	stands(t, f, api.FsmActive, 5, 0, 0)
	f = at(t, api.FsmConnect)
	does(t, f, kind(api.StirDown), listen)
	ticks(f, 4)
	does(t, f, kind(api.StirTick), call)
	stands(t, f, api.FsmConnect, 5, 0, 0)
	f = at(t, api.FsmOpenSent)
	ticks(f, 239)
	does(t, f, kind(api.StirTick), notice(4, 0), drop)
	f = at(t, api.FsmOpenConfirm)
	ticks(f, 2)
	does(t, f, kind(api.StirTick), alive)
	ticks(f, 2)
	does(t, f, kind(api.StirTick), alive)
	ticks(f, 2)
	does(t, f, kind(api.StirTick), notice(4, 0), drop)
	f = at(t, api.FsmEstablished)
	ticks(f, 2)
	does(t, f, kind(api.StirTick), alive)
	ticks(f, 2)
	does(t, f, kind(api.StirTick), alive)
	ticks(f, 2)
	does(t, f, kind(api.StirTick), notice(4, 0), drop, shut)
	stands(t, f, api.FsmIdle, 0, 0, 0)
	ticks(session(t, peering()), 100)
}

// P22.1: stirs that may not be.
func TestRefuse(t *testing.T) {
	for _, where := range everywhere {
		f, before := at(t, where), at(t, where)
		for i, s := range []api.Stir{{}, {Kind: 8}, {Kind: -1}, message(api.Message{}), message(opening(2, 2, 20)), message(api.Message{Kind: api.MsgKeep, Open: api.Open{Id: 1}}),
			message(api.Message{Kind: api.MsgNotice, Notice: api.Notice{Data: make([]byte, 492)}}), flaw(api.OK), flaw(api.ErrArg), flaw(-7)} {
			if l, e := f.Stir(s); l != nil || e != api.ErrArg || !fsm.Same(f, before) {
				t.Error(where, i, l, e)
			}
		}
	}
}

// P22.2: copies, what is the same, none; memory of one's own.
func TestStateCopySame(t *testing.T) {
	p := peering()
	f := session(t, p)
	p.Own.Caps[1].Body[0]++
	does(t, f, kind(api.StirStart), call)
	l, _ := f.Stir(kind(api.StirUp))
	l[0].Message.Open.Caps[1].Body[0]++
	l[0].Message.Open.Caps[0].Code++
	c := f.Copy()
	does(t, f, kind(api.StirStop), notice(6, 2), drop)
	does(t, f, kind(api.StirStart), call)
	does(t, f, kind(api.StirUp), hello)
	if !fsm.Same(f, c) {
		t.Error("a copy goes on apart")
	}
	does(t, c, message(opening(2, 9, 20)), alive)
	if fsm.Same(f, c) {
		t.Error("another place")
	}
	does(t, f, message(opening(2, 9, 21)), alive)
	if !fsm.Same(f, c) {
		t.Error("the same session")
	}
	s := f.State()
	s.Session.Caps[0]++
	l, _ = f.Stir(message(keeping()))
	l[0].Session.Caps[0]++
	if !slices.Equal(f.State().Session.Caps, []uint8{2}) {
		t.Error("answers share memory")
	}
	u := updating()
	l, _ = f.Stir(message(u))
	l[0].Message.Update.New[0].Len++
	if u.Update.New[0].Len != 0 {
		t.Error("an answer shares memory with what was handed in")
	}
	for i, change := range []func(p *api.Peering){
		func(p *api.Peering) { p.Own.Id++ }, func(p *api.Peering) { p.PeerAs++ }, func(p *api.Peering) { p.Retry++ }, func(p *api.Peering) { p.Passive = true },
	} {
		p := peering()
		change(&p)
		if fsm.Same(session(t, p), session(t, peering())) {
			t.Error(i)
		}
	}
	// The same clocks, but another place; other clocks at one place; another session alone.
	x, y := at(t, api.FsmConnect), at(t, api.FsmConnect)
	does(t, y, kind(api.StirDown), listen)
	if fsm.Same(x, y) {
		t.Error("another place")
	}
	y = at(t, api.FsmConnect)
	does(t, y, kind(api.StirTick))
	if fsm.Same(x, y) {
		t.Error("other clocks")
	}
	x, y = at(t, api.FsmOpenSent), at(t, api.FsmOpenSent)
	does(t, x, message(opening(2, 9, 20)), alive)
	bare := opening(2, 9, 20)
	bare.Open.Caps = nil
	does(t, y, message(bare), alive)
	if fsm.Same(x, y) {
		t.Error("another session")
	}
	refused, _ := fsm.New(api.Peering{})
	for _, none := range []*fsm.Fsm{nil, {}, refused} {
		l, e := none.Stir(api.Stir{})
		if s := none.State(); l != nil || e != api.ErrNil || s.At != 0 || none.Copy() != nil {
			t.Error("none answers")
		}
		if fsm.Same(none, f) || fsm.Same(f, none) || !fsm.Same(none, nil) || !fsm.Same(nil, none) {
			t.Error("a nil one is like a nil one alone")
		}
	}
}

// P22.3: opens and closes take turns, updates between alone; one notice at most, and then it is idle.
func TestFollows(t *testing.T) {
	stirs := []api.Stir{
		kind(api.StirStart), kind(api.StirStop), kind(api.StirUp), kind(api.StirUp), kind(api.StirDown), kind(api.StirTick), kind(api.StirTick), kind(api.StirStart),
		message(opening(2, 9, 20)), message(opening(2, 9, 20)), message(keeping()), message(keeping()), message(updating()), message(updating()), flaw(api.ErrMark), message(api.Message{Kind: api.MsgNotice}),
	}
	x := uint32(5)
	f := session(t, peering())
	open, opened := false, 0
	for range 100000 {
		x = x*1664525 + 1013904223
		s := stirs[x>>16%uint32(len(stirs))]
		if open && x>>8%4 > 0 && s.Kind != api.StirTick {
			s = message(updating())
		}
		l, e := f.Stir(s)
		if e != api.OK {
			t.Fatal(e)
		}
		notices := 0
		for _, d := range l {
			switch {
			case d.Kind == api.DeedOpen && open, d.Kind == api.DeedClose && !open, d.Kind == api.DeedUpdate && !open:
				t.Fatal(d.Kind, "out of turn")
			case d.Kind == api.DeedOpen:
				open = true
				opened++
			case d.Kind == api.DeedClose:
				open = false
			case d.Kind == api.DeedSay && d.Message.Kind == api.MsgNotice:
				notices++
			}
			if d.Kind == api.DeedSay && msg.Check(d.Message) != api.OK {
				t.Fatal("what is said may not be")
			}
		}
		if notices > 1 || notices == 1 && f.State().At != api.FsmIdle || open != (f.State().At == api.FsmEstablished) {
			t.Fatal(l, f.State())
		}
	}
	if opened < 100 {
		t.Error(opened)
	}
	// Two that hear each other's MsgKeep don't fall back.
	a, b := at(t, api.FsmEstablished), at(t, api.FsmEstablished)
	for range 1000 {
		for _, two := range [][2]*fsm.Fsm{{a, b}, {b, a}} {
			l, _ := two[0].Stir(kind(api.StirTick))
			for _, d := range l {
				does(t, two[1], message(d.Message))
			}
		}
	}
	if a.State().At != api.FsmEstablished || b.State().At != api.FsmEstablished {
		t.Error("they fell back")
	}
}
