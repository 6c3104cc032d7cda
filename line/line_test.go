package line_test

import (
	"slices"
	"testing"

	"pursuivant/ao"
	"pursuivant/api"
	"pursuivant/keys"
	"pursuivant/line"
	"pursuivant/msg"
	"pursuivant/stream"
	"pursuivant/update"
)

func of(local, peer uint32) api.Line {
	return api.Line{Local: local, Peer: peer, PeerId: 10 * peer, ISN: 1000 * local, Peering: api.Peering{Own: api.Open{As: local, Hold: 9, Id: 10 * local}, PeerAs: peer, Retry: 5}}
}

func made(t *testing.T, l api.Line) *line.Line {
	t.Helper()
	n, e := line.New(l)
	if e != api.OK {
		t.Fatal(e)
	}
	return n
}

// ring is the one key of a side.
func ring(t *testing.T, peer uint32, send, recv uint8) *keys.Keys {
	t.Helper()
	k := keys.New()
	if e := k.Add(api.Mkt{Peer: peer, Send: send, Recv: recv, Alg: api.AlgCmac, Master: "secret"}); e != api.OK {
		t.Fatal(e)
	}
	return k
}

func prefix(n int) api.Prefix { return api.Prefix{Addr: uint32(n), Len: 32} }

func news(n int) api.Update {
	return api.Update{New: []api.Prefix{prefix(n)}, Attrs: api.Attrs{Next: 5}}
}

// side is a line, its keys, what was told of it, and what is on its way to it.
type side struct {
	line    *line.Line
	keys    *keys.Keys
	tidings []api.Tiding
	coming  []api.Seg
}

type two struct {
	t     *testing.T
	sides [2]side
}

func both(t *testing.T, a, b api.Line) *two {
	return &two{t: t, sides: [2]side{{line: made(t, a), keys: ring(t, b.Local, 1, 2)}, {line: made(t, b), keys: ring(t, a.Local, 2, 1)}}}
}

func (w *two) goes(from int, segs []api.Seg, tidings []api.Tiding, e api.Errno) {
	w.t.Helper()
	if e != api.OK {
		w.t.Fatal(e)
	}
	to := &w.sides[1-from]
	to.coming = append(to.coming, segs...)
	w.sides[from].tidings = append(w.sides[from].tidings, tidings...)
}

func (w *two) want(i int, is bool) {
	w.t.Helper()
	segs, tidings, e := w.sides[i].line.Want(w.sides[i].keys, is)
	w.goes(i, segs, tidings, e)
}

func (w *two) tick(i int) {
	w.t.Helper()
	segs, tidings, e := w.sides[i].line.Tick(w.sides[i].keys)
	w.goes(i, segs, tidings, e)
}

func (w *two) come(i, at int, stays bool) api.Drop {
	w.t.Helper()
	s := &w.sides[i]
	one := s.coming[at]
	if !stays {
		s.coming = slices.Delete(s.coming, at, at+1)
	}
	segs, tidings, drop, e := s.line.Come(s.keys, one)
	w.goes(i, segs, tidings, e)
	return drop
}

func (w *two) say(i int, u ...api.Update) {
	w.t.Helper()
	segs, e := w.sides[i].line.Say(w.sides[i].keys, u...)
	w.goes(i, segs, nil, e)
}

// all lets all come, in order, till nothing is on its way.
func (w *two) all() {
	w.t.Helper()
	for len(w.sides[0].coming)+len(w.sides[1].coming) > 0 {
		for i := range w.sides {
			for len(w.sides[i].coming) > 0 {
				w.come(i, 0, false)
			}
		}
	}
}

func (w *two) ticks(n int) {
	w.t.Helper()
	for range n {
		for i := range w.sides {
			w.tick(i)
			w.all()
		}
	}
}

func (w *two) at(a, b api.FsmAt) {
	w.t.Helper()
	x, y := w.sides[0].line.State(), w.sides[1].line.State()
	if x.Fsm.At != a || y.Fsm.At != b {
		w.t.Fatal(x.Fsm, y.Fsm)
	}
}

func kinds(l []api.Tiding) []api.DeedKind {
	var out []api.DeedKind
	for _, x := range l {
		out = append(out, x.Kind)
	}
	return out
}

// up is two lines that are up.
func up(t *testing.T) *two {
	t.Helper()
	w := both(t, of(1, 2), of(2, 1))
	w.want(0, true)
	w.want(1, true)
	w.all()
	w.at(api.FsmEstablished, api.FsmEstablished)
	return w
}

// P28.1: which lines may be.
func TestNew(t *testing.T) {
	for i, r := range []struct {
		change func(l *api.Line)
		e      api.Errno
	}{
		{func(l *api.Line) {}, api.OK},
		{func(l *api.Line) { l.Peer = 1 }, api.ErrArg},
		{func(l *api.Line) { l.Peering.PeerAs = 0 }, api.ErrArg},
		{func(l *api.Line) { l.Peering.Own.Hold = 1 }, api.ErrArg},
		{func(l *api.Line) { l.Peering.Retry = 0 }, api.ErrArg},
		{func(l *api.Line) { l.ISN = 1<<32 - 1 }, api.OK},
	} {
		l := of(1, 2)
		r.change(&l)
		n, e := line.New(l)
		if e != r.e || (n == nil) != (e != api.OK) {
			t.Error(i, e)
		}
		if s := n.State(); n != nil && (s.Wanted || s.Has || s.Waits != 0 || s.Fsm.At != api.FsmIdle || n.Ready()) {
			t.Error(i, s)
		}
	}
}

// P28.1: a call goes out as a tagged Syn; the ISNs of connections; keys that are not there.
func TestWant(t *testing.T) {
	l, k := made(t, of(1, 2)), ring(t, 2, 1, 2)
	segs, tidings, e := l.Want(keys.New(), true)
	if e != api.OK || len(segs) != 0 || len(tidings) != 0 {
		t.Error(segs, tidings, e)
	}
	if s := l.State(); !s.Wanted || s.Has || s.Fsm.At != api.FsmConnect {
		t.Error(s)
	}
	var isns []uint32
	for range 30 {
		segs, _, e := l.Tick(k)
		if e != api.OK {
			t.Fatal(e)
		}
		for _, s := range segs {
			if s.Flags != api.Syn || s.Ttl != 255 || !s.Has || s.From != 1 || s.To != 2 || s.FromPort != 179 || s.ToPort != 179 || s.Auth.Key != 1 || s.Auth.Next != 2 {
				t.Error(s)
			}
			if len(isns) == 0 || isns[len(isns)-1] != s.Seq {
				isns = append(isns, s.Seq)
			}
		}
	}
	// None was there at first: its ISN was not used.
	if !slices.Equal(isns, []uint32{1000, 65000, 129000, 193000, 257000, 321000}) {
		t.Error(isns)
	}
	segs, tidings, e = l.Want(k, false)
	if s := l.State(); e != api.OK || len(segs) != 0 || len(tidings) != 0 || s.Wanted || s.Has || s.Fsm.At != api.FsmIdle {
		t.Error(segs, tidings, e, s)
	}
	for range 10 {
		if segs, _, _ := l.Tick(k); len(segs) != 0 {
			t.Error("it is not wanted", segs)
		}
	}
	if segs, _, _ := l.Want(k, true); len(segs) != 1 || segs[0].Seq != 385000 {
		t.Error(segs)
	}
	if segs, _, _ := l.Want(k, true); len(segs) != 0 {
		t.Error("wanted twice", segs)
	}
}

// P28.1: two lines come up, say updates, fall back.
func TestTwo(t *testing.T) {
	w := up(t)
	for i := range w.sides {
		s := &w.sides[i]
		st := s.line.State()
		if !slices.Equal(kinds(s.tidings), []api.DeedKind{api.DeedOpen}) || s.tidings[0].Session.Hold != 9 || !st.Has || st.Stream.At != api.StreamOpen || !st.Guard.Learned || st.Waits != 0 || !s.line.Ready() {
			t.Error(i, s.tidings, st)
		}
	}
	w.say(0, news(1), api.Update{}, news(2))
	w.say(1)
	w.all()
	got := w.sides[1].tidings[1:]
	if !slices.Equal(kinds(got), []api.DeedKind{api.DeedUpdate, api.DeedUpdate, api.DeedUpdate}) || !update.Same(got[0].Update, news(1)) || !update.Same(got[1].Update, api.Update{}) || !update.Same(got[2].Update, news(2)) {
		t.Error(got)
	}
	w.ticks(100)
	w.at(api.FsmEstablished, api.FsmEstablished)
	w.say(1, news(3))
	w.want(1, false) // the update goes ahead of the notice, and of the reset
	w.all()
	if got := kinds(w.sides[0].tidings); !slices.Equal(got, []api.DeedKind{api.DeedOpen, api.DeedUpdate, api.DeedClose}) {
		t.Error(got)
	}
	if got := kinds(w.sides[1].tidings); !slices.Equal(got[len(got)-1:], []api.DeedKind{api.DeedClose}) {
		t.Error(got)
	}
	w.at(api.FsmIdle, api.FsmIdle)
	w.ticks(20)
	w.want(1, true)
	w.ticks(20)
	w.at(api.FsmEstablished, api.FsmEstablished)
}

// P28.1: many updates at once wait for room, and nothing may be said till then.
func TestWaits(t *testing.T) {
	w := up(t)
	var l []api.Update
	for n := range 20 {
		u := news(0)
		u.New = nil
		for i := range 90 {
			u.New = append(u.New, prefix(1000*n+i))
		}
		l = append(l, u)
	}
	w.say(0, l...)
	s := w.sides[0].line.State()
	if s.Waits == 0 || w.sides[0].line.Ready() || s.Stream.Written-s.Stream.Window.Acked > api.MaxBuffer {
		t.Error(s.Waits, s.Stream)
	}
	if segs, e := w.sides[0].line.Say(w.sides[0].keys, news(1)); segs != nil || e != api.ErrShy {
		t.Error(e)
	}
	w.all()
	if n := len(w.sides[1].tidings) - 1; n != 20 || !w.sides[0].line.Ready() {
		t.Error(n)
	}
	for i, x := range w.sides[1].tidings[1:] {
		if !update.Same(x.Update, l[i]) {
			t.Error(i)
		}
	}
}

// P28.1: what Say refuses, in its order.
func TestSayRefuse(t *testing.T) {
	bad := api.Update{New: []api.Prefix{prefix(1)}}
	var long api.Update
	for i := range 98 {
		long.Gone = append(long.Gone, prefix(i))
	}
	w := up(t)
	l := made(t, of(1, 2))
	for i, r := range []struct {
		of *line.Line
		u  []api.Update
		e  api.Errno
	}{
		{w.sides[0].line, []api.Update{news(1), bad}, api.ErrArg}, {w.sides[0].line, []api.Update{long, bad}, api.ErrArg}, {w.sides[0].line, []api.Update{news(1), long}, api.ErrLong},
		{l, []api.Update{long, bad}, api.ErrArg}, {l, []api.Update{long}, api.ErrLong}, {l, []api.Update{news(1)}, api.ErrShy}, {l, nil, api.ErrShy},
	} {
		if segs, e := r.of.Say(w.sides[0].keys, r.u...); segs != nil || e != r.e || r.of.State().Waits != 0 {
			t.Error(i, segs, e)
		}
	}
	if segs, e := w.sides[0].line.Say(w.sides[0].keys, bad, news(1)); segs != nil || e != api.ErrArg {
		t.Error(segs, e)
	}
	w.say(0, news(1))
	if len(w.sides[1].coming) != 1 {
		t.Error(len(w.sides[1].coming))
	}
}

// P28.1, P28.3: segments that are dropped change one number alone.
func TestDropped(t *testing.T) {
	w := up(t)
	a := &w.sides[0]
	w.say(1, news(1))
	right := a.coming[0]
	a.coming = nil
	for i, r := range []struct {
		change func(s *api.Seg)
		drop   api.Drop
		e      api.Errno
	}{
		{func(s *api.Seg) { s.FromPort = 1 }, api.DropEnds, api.OK}, {func(s *api.Seg) { s.To = 9 }, api.DropEnds, api.OK}, {func(s *api.Seg) { s.Ttl = 64 }, api.DropTtl, api.OK},
		{func(s *api.Seg) { s.Has, s.Auth = false, api.Auth{} }, api.DropBare, api.OK}, {func(s *api.Seg) { s.Auth.Key = 77 }, api.DropKey, api.OK}, {func(s *api.Seg) { s.Auth.Tag[5]++ }, api.DropTag, api.OK},
		{func(s *api.Seg) { s.Flags = api.Rst }, api.DropTag, api.OK},
		{func(s *api.Seg) { s.Flags = 16 }, api.DropNone, api.ErrArg}, {func(s *api.Seg) { s.Data = make([]byte, 65) }, api.DropNone, api.ErrArg}, {func(s *api.Seg) { s.Has = false }, api.DropNone, api.ErrArg},
	} {
		s := right
		r.change(&s)
		want := a.line.State()
		if r.e == api.OK {
			want.Dropped[r.drop]++
			want.Guard.Drops[r.drop]++
		}
		segs, tidings, drop, e := a.line.Come(a.keys, s)
		if got := a.line.State(); segs != nil || tidings != nil || drop != r.drop || e != r.e || got.Dropped != want.Dropped || got.Guard != want.Guard || got.Stream != want.Stream || got.Fsm.Hold != want.Fsm.Hold {
			t.Error(i, segs, tidings, drop, e, got)
		}
	}
	if segs, tidings, drop, e := a.line.Come(a.keys, right); drop != api.DropNone || e != api.OK || len(tidings) != 1 || len(segs) != 1 {
		t.Error(segs, tidings, drop, e)
	}
	// Drops are counted over all connections, also where there is none.
	was := a.line.State().Dropped
	if was != [6]int{0, 2, 1, 1, 1, 2} {
		t.Error(was)
	}
	w.want(0, false)
	if got := a.line.State(); got.Dropped != was || got.Has || got.Guard != (api.Guard{}) || got.Stream != (api.Stream{}) {
		t.Error(got)
	}
	segs, tidings, drop, e := a.line.Come(a.keys, right)
	was[api.DropEnds]++
	if segs != nil || tidings != nil || drop != api.DropEnds || e != api.OK || a.line.State().Dropped != was {
		t.Error(segs, tidings, drop, e)
	}
	bad := right
	bad.Flags = -1
	if _, _, drop, e := a.line.Come(a.keys, bad); drop != api.DropNone || e != api.ErrArg {
		t.Error(drop, e)
	}
}

// P28.1: names and systems that don't fit; both sides passive; one side passive.
func TestFits(t *testing.T) {
	notices := func(a, b api.Line) *two {
		w := both(t, a, b)
		w.want(0, true)
		w.want(1, true)
		w.ticks(200)
		return w
	}
	other := of(2, 1)
	other.Peering.Own.Id = 21 // not the name that the first one knows
	w := notices(of(1, 2), other)
	if len(w.sides[0].tidings)+len(w.sides[1].tidings) != 0 {
		t.Error("another name")
	}
	other = of(2, 1)
	other.Peering.Own.As = 3
	w = notices(of(1, 2), other)
	if len(w.sides[0].tidings)+len(w.sides[1].tidings) != 0 {
		t.Error("another system")
	}
	passive := of(2, 1)
	passive.Peering.Passive = true
	w = notices(of(1, 2), passive)
	w.at(api.FsmEstablished, api.FsmEstablished)
	too := of(1, 2)
	too.Peering.Passive = true
	w = notices(too, passive)
	w.at(api.FsmActive, api.FsmActive)
}

// hand is the other end of a line, laid by hand: it says what it likes.
type hand struct {
	guard *ao.Guard
	end   *stream.Stream
	keys  *keys.Keys
}

// P28.1: what a peer says that is no message, or an opening of another name; a flaw is told once.
func TestFlaw(t *testing.T) {
	for i, r := range []struct {
		said      func() []byte
		code, sub uint8
	}{
		{func() []byte { return make([]byte, 19) }, 1, 1},
		{func() []byte {
			b, _ := msg.Raw(api.Message{Kind: api.MsgOpen, Open: api.Open{As: 2, Hold: 9, Id: 21}})
			return b
		}, 2, 3},
		{func() []byte {
			b, _ := msg.Raw(api.Message{Kind: api.MsgOpen, Open: api.Open{As: 3, Hold: 9, Id: 20}})
			return b
		}, 2, 2},
		{func() []byte { b, _ := msg.Raw(api.Message{Kind: api.MsgKeep}); return b }, 5, 1},
	} {
		l, k := made(t, of(1, 2)), ring(t, 2, 1, 2)
		h := &hand{keys: ring(t, 1, 2, 1)}
		h.guard, _ = ao.New(h.keys, api.Conn{Local: 2, Peer: 1, LocalPort: 179, PeerPort: 179, LocalISN: 7})
		h.end, _ = stream.New(7, false)
		var said []byte
		come := func(segs []api.Seg) {
			for len(segs) > 0 {
				s := segs[0]
				segs = segs[1:]
				if d, e := h.guard.In(h.keys, s); d != api.DropNone || e != api.OK {
					t.Fatal(d, e)
				}
				parts, _ := h.end.Come(api.Part{Flags: s.Flags, Seq: s.Seq, Ack: s.Ack, Window: s.Window, Data: s.Data})
				h.guard.Learn(h.end.State().Peer)
				b, more := h.end.Read()
				said = append(said, b...)
				for _, p := range append(parts, more...) {
					out, e := h.guard.Out(h.keys, api.Seg{Flags: p.Flags, Seq: p.Seq, Ack: p.Ack, Window: p.Window, Data: p.Data})
					if e != api.OK {
						t.Fatal(e)
					}
					back, tidings, _, _ := l.Come(k, out)
					if len(tidings) > 0 {
						t.Error(tidings)
					}
					segs = append(segs, back...)
				}
			}
		}
		segs, _, _ := l.Want(k, true)
		if _, e := h.end.Write(r.said()); e != api.OK {
			t.Fatal(e)
		}
		come(segs)
		reader := msg.New()
		reader.Write(said)
		first, _, _ := reader.Next()
		second, is, e := reader.Next()
		if first.Kind != api.MsgOpen || !is || e != api.OK || second.Kind != api.MsgNotice || second.Notice.Code != r.code || second.Notice.Sub != r.sub {
			t.Error(i, first, second, is, e)
		}
		if s := l.State(); s.Has || s.Fsm.At != api.FsmIdle || h.end.State().At != api.StreamDone {
			t.Error(i, s, h.end.State())
		}
	}
}

// P28.2: copies, none, no keys.
func TestCopyNone(t *testing.T) {
	w := up(t)
	a := &w.sides[0]
	c := a.line.Copy()
	if segs, e := c.Say(a.keys, news(1)); e != api.OK || len(segs) == 0 || a.line.State().Stream.Written == c.State().Stream.Written {
		t.Error(segs, e)
	}
	for range 9 {
		c.Tick(a.keys)
	}
	if c.State().Fsm.At != api.FsmIdle {
		t.Error(c.State())
	}
	w.ticks(5)
	w.at(api.FsmEstablished, api.FsmEstablished)
	refused, _ := line.New(api.Line{})
	for i, r := range []struct {
		l *line.Line
		k *keys.Keys
	}{{nil, a.keys}, {&line.Line{}, a.keys}, {refused, a.keys}, {a.line, nil}, {a.line, &keys.Keys{}}, {nil, nil}} {
		s1, t1, e1 := r.l.Want(r.k, false)
		s2, t2, e2 := r.l.Tick(r.k)
		s3, t3, d3, e3 := r.l.Come(r.k, api.Seg{Flags: 16})
		s4, e4 := r.l.Say(r.k, api.Update{New: []api.Prefix{{}}})
		for j, e := range []api.Errno{e1, e2, e3, e4} {
			if e != api.ErrNil {
				t.Error(i, j, e)
			}
		}
		if len(s1)+len(s2)+len(s3)+len(s4)+len(t1)+len(t2)+len(t3)+int(d3) != 0 {
			t.Error(i, "answers beside an error")
		}
		if r.l != a.line && (r.l.Ready() || r.l.Copy() != nil || r.l.State().Fsm.At != 0) {
			t.Error(i, "none answers")
		}
	}
	w.at(api.FsmEstablished, api.FsmEstablished)
}
