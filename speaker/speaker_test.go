package speaker_test

import (
	"maps"
	"slices"
	"testing"

	"pursuivant/api"
	"pursuivant/attrs"
	"pursuivant/keys"
	"pursuivant/rib"
	"pursuivant/seg"
	"pursuivant/speaker"
)

var pass = api.Policy{Else: true}

// router is the one of that number: its system, name and address.
func router(n uint32, neighbors ...uint32) api.Router {
	r := api.Router{Self: api.Self{As: n, Id: n, Addr: n}, Hold: 9, ISN: 1000 * n}
	for _, m := range neighbors {
		r.Neighbors = append(r.Neighbors, api.Neighbor{Addr: m, As: m, Id: m, Retry: 3, In: pass, Out: pass})
	}
	return r
}

func made(t *testing.T, r api.Router) *speaker.Speaker {
	t.Helper()
	s, e := speaker.New(r)
	if e != api.OK {
		t.Fatal(e)
	}
	return s
}

// key is the one that a speaker has for a peer: both sides name it alike.
func key(peer uint32, n uint8) api.Mkt {
	return api.Mkt{Peer: peer, Send: n, Recv: n, Alg: api.AlgHmac, Master: "m" + string(rune('0'+n))}
}

func prefix(n int) api.Prefix { return api.Prefix{Addr: uint32(n), Len: 32} }

var said = api.Attrs{Next: 77}

// net is speakers, and what is on its way to each.
type net struct {
	t      *testing.T
	all    map[uint32]*speaker.Speaker
	coming [][]byte
}

func build(t *testing.T, l ...api.Router) *net {
	t.Helper()
	w := &net{t: t, all: map[uint32]*speaker.Speaker{}}
	for _, r := range l {
		s := made(t, r)
		w.all[r.Self.Addr] = s
		for _, n := range r.Neighbors {
			if e := s.Key(key(n.Addr, 1)); e != api.OK {
				t.Fatal(e)
			}
		}
	}
	for _, r := range l {
		for i := range r.Neighbors {
			w.goes(w.all[r.Self.Addr].Want(i, true))
		}
	}
	w.settle()
	return w
}

func (w *net) goes(l [][]byte, e api.Errno) {
	w.t.Helper()
	if e != api.OK {
		w.t.Fatal(e)
	}
	w.coming = append(w.coming, l...)
}

func (w *net) settle() {
	w.t.Helper()
	for len(w.coming) > 0 {
		b := w.coming[0]
		w.coming = w.coming[1:]
		s, e := seg.Parse(b)
		if e != api.OK {
			w.t.Fatal(e)
		}
		if to := w.all[s.To]; to != nil {
			l, _, e := to.Come(b)
			w.goes(l, e)
		}
	}
}

func (w *net) ticks(n int) {
	w.t.Helper()
	for range n {
		for _, at := range slices.Sorted(maps.Keys(w.all)) {
			w.goes(w.all[at].Tick())
			w.settle()
		}
	}
}

func (w *net) up(at uint32, n int) bool {
	return w.all[at].State().Lines[n].Fsm.At == api.FsmEstablished
}

// best is the system of whom a speaker's best route is, by prefix (0 of an own one).
func (w *net) best(at uint32) map[api.Prefix]uint32 {
	l := map[api.Prefix]uint32{}
	for p, b := range w.all[at].Rib().All() {
		l[p] = b.Route.Peer.As
	}
	return l
}

// P29.1: which routers may be.
func TestNew(t *testing.T) {
	for i, r := range []struct {
		change func(r *api.Router)
		e      api.Errno
	}{
		{func(r *api.Router) {}, api.OK},
		{func(r *api.Router) { r.Neighbors = nil }, api.OK},
		{func(r *api.Router) { r.Self.As = 0 }, api.ErrArg},
		{func(r *api.Router) { r.Self.Id = 0 }, api.ErrArg},
		{func(r *api.Router) { r.Self.Addr = 0 }, api.ErrArg},
		{func(r *api.Router) { r.Hold = 2 }, api.ErrArg},
		{func(r *api.Router) { r.Hold = 0 }, api.OK},
		{func(r *api.Router) { r.Neighbors[0].Addr = 1 }, api.ErrArg},
		{func(r *api.Router) { r.Neighbors[1].Addr = 2 }, api.ErrArg},
		{func(r *api.Router) { r.Neighbors[1].Id = 2 }, api.OK},
		{func(r *api.Router) { r.Neighbors[1].As = 1 }, api.OK},
		{func(r *api.Router) { r.Neighbors[1].As = 0 }, api.ErrArg},
		{func(r *api.Router) { r.Neighbors[1].Id = 0 }, api.ErrArg},
		{func(r *api.Router) { r.Neighbors[1].Retry = 0 }, api.ErrArg},
		{func(r *api.Router) { r.Neighbors[1].In = api.Policy{Rules: make([]api.Rule, 17)} }, api.ErrArg},
		{func(r *api.Router) { r.Neighbors[1].Out.Rules = []api.Rule{{Least: 1}} }, api.ErrArg},
		{func(r *api.Router) { r.Neighbors = router(1, 2, 3, 4, 5).Neighbors }, api.OK},
		{func(r *api.Router) { r.Neighbors = router(1, 2, 3, 4, 5, 6).Neighbors }, api.ErrLong},
		{func(r *api.Router) { r.Neighbors = router(1, 2, 3, 4, 5, 6, 6).Neighbors }, api.ErrArg},
		{func(r *api.Router) { r.Neighbors = router(1, 2, 3, 4, 5, 6, 1).Neighbors }, api.ErrArg},
		{func(r *api.Router) { r.ISN = 1<<32 - 1 }, api.OK},
	} {
		it := router(1, 2, 3)
		r.change(&it)
		s, e := speaker.New(it)
		if e != r.e || (s == nil) != (e != api.OK) || s != nil && len(s.State().Lines) != len(it.Neighbors) {
			t.Error(i, e)
		}
	}
}

// P29.1: keys; whom it wants.
func TestKeysWant(t *testing.T) {
	s := made(t, router(1, 2, 3))
	for i, x := range []struct{ got, want api.Errno }{
		{s.Key(key(2, 1)), api.OK}, {s.Key(key(2, 1)), api.ErrTwice}, {s.Key(api.Mkt{}), api.ErrArg}, {s.Key(key(99, 1)), api.OK}, {s.Key(key(2, 2)), api.OK},
		{s.Unkey(2, 1), api.ErrWanted}, {s.Prefer(2, 2), api.OK}, {s.Prefer(2, 3), api.ErrNone}, {s.Unkey(2, 1), api.OK}, {s.Unkey(5, 1), api.ErrNone},
	} {
		if x.got != x.want {
			t.Error(i, x.got)
		}
	}
	if l := s.Keys().All(); !slices.Equal(l, []api.Mkt{key(99, 1), key(2, 2)}) {
		t.Error(l)
	}
	for _, n := range []int{-1, 2, 1 << 40, -1 << 63} {
		if l, e := s.Want(n, true); l != nil || e != api.ErrRange {
			t.Error(n, l, e)
		}
	}
	if l, e := s.Want(1, true); len(l) != 0 || e != api.OK {
		t.Error("without a key", l, e)
	}
	l, e := s.Want(0, true)
	if len(l) != 1 || e != api.OK {
		t.Fatal(l, e)
	}
	if x, e := seg.Parse(l[0]); e != api.OK || x.From != 1 || x.To != 2 || x.Seq != 1000 || x.Flags != api.Syn || x.Auth.Key != 2 {
		t.Error(x, e)
	}
	s.Key(key(3, 7))
	var syns [][]byte
	for range 3 {
		l, e := s.Tick()
		if e != api.OK {
			t.Fatal(e)
		}
		syns = append(syns, l...)
	}
	// The first one again, at its second tick; at the third, as often as Retry, both anew.
	if len(syns) != 3 {
		t.Fatal(len(syns))
	}
	for i, want := range []struct{ to, seq uint32 }{{2, 1000}, {2, 65000}, {3, 1001}} {
		if x, _ := seg.Parse(syns[i]); x.To != want.to || x.Seq != want.seq {
			t.Error(i, x)
		}
	}
	if l, e := s.Want(0, false); len(l) != 0 || e != api.OK || s.State().Lines[0].Wanted {
		t.Error(l, e)
	}
}

// P29.1: datagrams that are bad, strange, dropped: one number alone changes, nothing goes.
func TestComeRefuse(t *testing.T) {
	w := build(t, router(1, 2), router(2, 1))
	s := w.all[1]
	own, _ := w.all[2].Tick()
	for len(own) == 0 {
		own, _ = w.all[2].Tick()
	}
	right, _ := seg.Parse(own[0])
	with := func(change func(x *api.Seg)) []byte {
		x := right
		change(&x)
		b, e := seg.Raw(x)
		if e != api.OK {
			t.Fatal(e)
		}
		return b
	}
	broken := slices.Clone(own[0])
	broken[25] ^= 1
	for i, r := range []struct {
		b    []byte
		drop api.Drop
		e    api.Errno
	}{
		{nil, 0, api.ErrFew}, {[]byte{1, 2, 3}, 0, api.ErrFew}, {broken, 0, api.ErrSum}, {make([]byte, 29), 0, api.ErrWords},
		{with(func(x *api.Seg) { x.To = 9 }), 0, api.ErrNone}, {with(func(x *api.Seg) { x.From = 9 }), 0, api.ErrNone}, {with(func(x *api.Seg) { x.From, x.To = 1, 2 }), 0, api.ErrNone},
		{with(func(x *api.Seg) { x.FromPort = 9 }), api.DropEnds, 0}, {with(func(x *api.Seg) { x.Ttl = 9 }), api.DropTtl, 0}, {with(func(x *api.Seg) { x.Has, x.Auth = false, api.Auth{} }), api.DropBare, 0},
		{with(func(x *api.Seg) { x.Auth.Key = 9 }), api.DropKey, 0}, {with(func(x *api.Seg) { x.Auth.Tag[0]++ }), api.DropTag, 0}, {with(func(x *api.Seg) { x.Flags = api.Rst }), api.DropTag, 0},
	} {
		was := s.State()
		before := s.Rib()
		l, drop, e := s.Come(r.b)
		now := s.State()
		switch {
		case r.e == api.ErrNone:
			was.Strange++
		case r.e != api.OK:
			was.Bad++
		default:
			was.Lines[0].Dropped[r.drop]++
			was.Lines[0].Guard.Drops[r.drop]++
		}
		if len(l) != 0 || drop != r.drop || e != r.e || now.Bad != was.Bad || now.Strange != was.Strange || now.Lines[0].Dropped != was.Lines[0].Dropped || now.Lines[0].Guard != was.Lines[0].Guard || now.Lines[0].Stream != was.Lines[0].Stream || !rib.Same(before, s.Rib()) {
			t.Error(i, l, drop, e, now)
		}
	}
	if l, drop, e := s.Come(own[0]); len(l) == 0 || drop != 0 || e != api.OK {
		t.Error(l, drop, e)
	}
}

// P29.1: routes of one are told to the others; what is lost goes.
func TestRoutes(t *testing.T) {
	w := build(t, router(1, 2), router(2, 1, 3), router(3, 2))
	for _, x := range []struct {
		at uint32
		n  int
	}{{1, 0}, {2, 0}, {2, 1}, {3, 0}} {
		if !w.up(x.at, x.n) {
			t.Fatal(x)
		}
	}
	med := said
	med.HasMed, med.Med = true, 5
	w.goes(w.all[1].Own(prefix(7), med))
	w.settle()
	b, is := w.all[2].Rib().Best(prefix(7))
	if !is || b.Route.Peer.As != 1 || !attrs.Same(b.Route.Attrs, api.Attrs{Path: []api.Leg{{As: []uint32{1}}}, Next: 1, HasMed: true, Med: 5}) {
		t.Error(b, is)
	}
	b, is = w.all[3].Rib().Best(prefix(7))
	if !is || b.Route.Peer.As != 2 || !attrs.Same(b.Route.Attrs, api.Attrs{Path: []api.Leg{{As: []uint32{2, 1}}}, Next: 2}) {
		t.Error(b, is)
	}
	if w.all[3].State().Routes != 1 {
		t.Error(w.all[3].State().Routes)
	}
	w.goes(w.all[3].Own(prefix(7), said))
	w.settle()
	if !maps.Equal(w.best(2), map[api.Prefix]uint32{prefix(7): 1}) || !maps.Equal(w.best(3), map[api.Prefix]uint32{prefix(7): 0}) {
		t.Error(w.best(2), w.best(3))
	}
	w.goes(w.all[1].Lost(prefix(7)))
	w.settle()
	if !maps.Equal(w.best(2), map[api.Prefix]uint32{prefix(7): 3}) || !maps.Equal(w.best(1), map[api.Prefix]uint32{prefix(7): 2}) {
		t.Error(w.best(2), w.best(1))
	}
	for i, e := range []api.Errno{
		func() api.Errno { _, e := w.all[1].Lost(prefix(7)); return e }(),
		func() api.Errno { _, e := w.all[1].Own(prefix(7), api.Attrs{}); return e }(),
	} {
		if want := []api.Errno{api.ErrNone, api.ErrArg}[i]; e != want {
			t.Error(i, e)
		}
	}
	// Who goes down takes its routes along.
	w.goes(w.all[3].Want(0, false))
	w.settle()
	if len(w.best(1))+len(w.best(2)) != 0 || w.up(2, 1) {
		t.Error(w.best(1), w.best(2))
	}
	w.goes(w.all[3].Want(0, true))
	w.ticks(20)
	if !maps.Equal(w.best(1), map[api.Prefix]uint32{prefix(7): 2}) {
		t.Error(w.best(1))
	}
}

// P29.1: who falls silent is let go.
func TestSilence(t *testing.T) {
	w := build(t, router(1, 2), router(2, 1))
	w.goes(w.all[1].Own(prefix(1), said))
	w.settle()
	for range 9 {
		w.all[2].Tick()
	}
	if s := w.all[2].State(); s.Lines[0].Fsm.At != api.FsmIdle || s.Routes != 0 || s.Lines[0].Has {
		t.Error(s)
	}
}

// P29.3: a neighbor that tells more routes than there may be: its session ends, and begins anew.
func TestTooMany(t *testing.T) {
	w := build(t, router(1, 2), router(2, 1, 3), router(3, 2))
	for n := range 64 {
		w.goes(w.all[2].Own(prefix(n), said))
	}
	w.settle()
	if w.all[1].State().Routes != 64 || !w.up(1, 0) {
		t.Fatal(w.all[1].State().Routes)
	}
	w.goes(w.all[3].Own(prefix(100), said))
	w.settle()
	if w.up(1, 0) || w.all[1].State().Routes != 0 || !w.all[1].State().Lines[0].Wanted {
		t.Error(w.all[1].State())
	}
	if w.all[2].State().Routes != 65 {
		t.Error(w.all[2].State().Routes)
	}
	w.goes(w.all[2].Lost(prefix(5)))
	w.ticks(30)
	if w.all[1].State().Routes != 64 || !w.up(1, 0) || !w.up(2, 0) {
		t.Error(w.all[1].State())
	}
}

// P29.1: many routes, told as there is room; all come through.
func TestMany(t *testing.T) {
	w := build(t, router(1, 2), router(2, 1))
	for n := range 64 {
		a := said
		a.HasMed, a.Med = true, uint32(n) // an update each
		w.goes(w.all[1].Own(prefix(n), a))
	}
	w.settle()
	if w.all[2].State().Routes != 64 {
		t.Error(w.all[2].State().Routes)
	}
	w.goes(w.all[1].Want(0, false))
	w.goes(w.all[1].Want(0, true))
	w.ticks(30)
	if w.all[2].State().Routes != 64 {
		t.Error(w.all[2].State().Routes)
	}
}

// P29.1: what is told while a line is not ready waits for it; nothing of it is lost.
func TestNotReady(t *testing.T) {
	w := build(t, router(1, 2), router(2, 1))
	for round := range 2 {
		for n := range 64 {
			a := said
			for tag := range uint32(16) {
				a.Tags = append(a.Tags, tag)
			}
			a.Med, a.HasMed = uint32(n+round), true
			w.goes(w.all[1].Own(prefix(n), a))
		}
	}
	if x := w.all[1].State().Lines[0]; x.Waits == 0 {
		t.Fatal("nothing waits")
	}
	w.settle()
	for n := range 64 {
		if b, is := w.all[2].Rib().Best(prefix(n)); !is || b.Route.Attrs.Med != uint32(n+1) {
			t.Fatal(n, b, is)
		}
	}
}

// P29.1: who lets a neighbor go, or is let go by a tick, tells the others at once.
func TestTellsBehind(t *testing.T) {
	gone := func(l [][]byte, to uint32) bool {
		return slices.ContainsFunc(l, func(b []byte) bool {
			s, e := seg.Parse(b)
			return e == api.OK && s.To == to && len(s.Data) == 19+4+5 // an update of one prefix that goes
		})
	}
	w := build(t, router(1, 2), router(2, 1, 3), router(3, 2))
	w.goes(w.all[3].Own(prefix(7), said))
	w.settle()
	l, e := w.all[2].Copy().Want(1, false)
	if e != api.OK || !gone(l, 1) {
		t.Error("Want", l, e)
	}
	told := false
	for range 9 { // the first one answers, the third one is silent
		l, e := w.all[2].Tick()
		if e != api.OK {
			t.Fatal(e)
		}
		told = told || gone(l, 1)
		for _, b := range l {
			if s, _ := seg.Parse(b); s.To == 1 {
				back, _, e := w.all[1].Come(b)
				w.goes(back, e)
			}
		}
		w.goes(w.all[1].Tick())
		for _, b := range w.coming {
			w.all[2].Come(b)
		}
		w.coming = nil
	}
	if !told {
		t.Error("Tick")
	}
}

// P0.3: keys roll over without a segment dropped, and without a session's end.
func TestRoll(t *testing.T) {
	w := build(t, router(1, 2), router(2, 1))
	for n := range uint8(5) {
		younger, elder := n+2, n+1
		for at, peer := range map[uint32]uint32{1: 2, 2: 1} {
			if e := w.all[at].Key(key(peer, younger)); e != api.OK {
				t.Fatal(e)
			}
		}
		w.goes(w.all[1].Own(prefix(int(n)), said))
		if e := w.all[1].Prefer(2, younger); e != api.OK {
			t.Fatal(e)
		}
		w.ticks(6)
		if e := w.all[2].Prefer(1, younger); e != api.OK {
			t.Fatal(e)
		}
		w.ticks(6)
		for at, peer := range map[uint32]uint32{1: 2, 2: 1} {
			if s := w.all[at].State().Lines[0].Guard.Send; s != younger {
				t.Fatal(at, s)
			}
			if e := w.all[at].Unkey(peer, elder); e != api.OK {
				t.Fatal(e)
			}
		}
		w.ticks(6)
	}
	for at := range uint32(2) {
		x := w.all[at+1].State()
		if x.Lines[0].Dropped != [6]int{} || !w.up(at+1, 0) || x.Routes != 5 || x.Lines[0].Guard.LocalISN != 1000*(at+1) {
			t.Error(x)
		}
	}
}

// P29.2: copies, none.
func TestCopyNone(t *testing.T) {
	w := build(t, router(1, 2), router(2, 1))
	s := w.all[1]
	c := s.Copy()
	c.Own(prefix(1), said)
	c.Key(key(2, 9))
	c.Come(nil)
	c.Want(0, false)
	if x := s.State(); x.Routes != 0 || x.Bad != 0 || !x.Lines[0].Wanted || !w.up(1, 0) || len(s.Keys().All()) != 1 {
		t.Error("a copy goes on apart", x)
	}
	if x := c.State(); x.Routes != 1 || x.Bad != 1 || x.Lines[0].Wanted || len(c.Keys().All()) != 2 {
		t.Error(x)
	}
	s.Rib().Own(prefix(2), said)
	s.Keys().Add(key(2, 8))
	if s.State().Routes != 0 || len(s.Keys().All()) != 1 {
		t.Error("Rib and Keys are copies")
	}
	refused, _ := speaker.New(api.Router{})
	for _, none := range []*speaker.Speaker{nil, {}, refused} {
		a, e1 := none.Want(9, true)
		b, e2 := none.Own(api.Prefix{Addr: 1}, api.Attrs{})
		c, e3 := none.Lost(prefix(1))
		d, e4 := none.Tick()
		f, drop, e5 := none.Come(nil)
		for i, e := range []api.Errno{e1, e2, e3, e4, e5, none.Key(api.Mkt{}), none.Unkey(1, 1), none.Prefer(1, 1)} {
			if e != api.ErrNil {
				t.Error(i, e)
			}
		}
		if len(a)+len(b)+len(c)+len(d)+len(f)+int(drop) != 0 || none.Rib() != nil || none.Keys() != nil || none.Copy() != nil || none.State().Lines != nil {
			t.Error("none answers")
		}
	}
	if !keys.Same(s.Keys(), s.Copy().Keys()) || !rib.Same(s.Rib(), s.Copy().Rib()) {
		t.Error("a copy is the same")
	}
}
