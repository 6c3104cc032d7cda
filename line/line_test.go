package line_test

import (
	"slices"
	"testing"

	"pursuivant/ao"
	"pursuivant/api"
	"pursuivant/keys"
	"pursuivant/line"
	"pursuivant/msg"
	"pursuivant/stream"
	"pursuivant/update"
)

func of(local, peer uint32) api.Line {
	return api.Line{Local: local, Peer: peer, PeerId: 10 * peer, ISN: 1000 * local, Peering: api.Peering{Own: api.Open{As: local, Hold: 9, Id: 10 * local}, PeerAs: peer, Retry: 5}}
}

func made(t *testing.T, l api.Line) *line.Line {
	t.Helper()
	n, e := line.New(l)
	if e != api.OK {
		t.Fatal(e)
	}
	return n
}

// ring is the one key of a side.
func ring(t *testing.T, peer uint32, send, recv uint8) *keys.Keys {
	t.Helper()
	k := keys.New()
	if e := k.Add(api.Mkt{Peer: peer, Send: send, Recv: recv, Alg: api.AlgCmac, Master: "secret"}); e != api.OK {
		t.Fatal(e)
	}
	return k
}

func prefix(n int) api.Prefix { return api.Prefix{Addr: uint32(n), Len: 32} }

func news(n int) api.Update {
	return api.Update{New: []api.Prefix{prefix(n)}, Attrs: api.Attrs{Next: 5}}
}

// side is a line, its keys, what was told of it, and what is on its way to it.
type side struct {
	line    *line.Line
	keys    *keys.Keys
	tidings []api.Tiding
	coming  []api.Seg
}

type two struct {
	t     *testing.T
	sides [2]side
}

func both(t *testing.T, a, b api.Line) *two {
	return &two{t: t, sides: [2]side{{line: made(t, a), keys: ring(t, b.Local, 1, 2)}, {line: made(t, b), keys: ring(t, a.Local, 2, 1)}}}
}

func (w *two) goes(from int, segs []api.Seg, tidings []api.Tiding, e api.Errno) {
	w.t.Helper()
	if e != api.OK {
		w.t.Fatal(e)
	}
	to := &w.sides[1-from]
	to.coming = append(to.coming, segs...)
	w.sides[from].tidings = append(w.sides[from].tidings, tidings...)
}

func (w *two) want(i int, is bool) {
	w.t.Helper()
	segs, tidings, e := w.sides[i].line.Want(w.sides[i].keys, is)
	w.goes(i, segs, tidings, e)
}

func (w *two) tick(i int) {
	w.t.Helper()
	segs, tidings, e := w.sides[i].line.Tick(w.sides[i].keys)
	w.goes(i, segs, tidings, e)
}

func (w *two) come(i, at int, stays bool) api.Drop {
	w.t.Helper()
	s := &w.sides[i]
	one := s.coming[at]
	if !stays {
		s.coming = slices.Delete(s.coming, at, at+1)
	}
	segs, tidings, drop, e := s.line.Come(s.keys, one)
	w.goes(i, segs, tidings, e)
	return drop
}

func (w *two) say(i int, u ...api.Update) {
	w.t.Helper()
	segs, e := w.sides[i].line.Say(w.sides[i].keys, u...)
	w.goes(i, segs, nil, e)
}

// all lets all come, in order, till nothing is on its way.
func (w *two) all() {
	w.t.Helper()
	for len(w.sides[0].coming)+len(w.sides[1].coming) > 0 {
		for i := range w.sides {
			for len(w.sides[i].coming) > 0 {
				w.come(i, 0, false)
			}
		}
	}
}

func (w *two) ticks(n int) {
	w.t.Helper()
	for range n {
		for i := range w.sides {
			w.tick(i)
			w.all()
		}
	}
}

func (w *two) at(a, b api.FsmAt) {
	w.t.Helper()
	x, y := w.sides[0].line.State(), w.sides[1].line.State()
	if x.Fsm.At != a || y.Fsm.At != b {
		w.t.Fatal(x.Fsm, y.Fsm)
	}
}

func kinds(l []api.Tiding) []api.DeedKind {
	var out []api.DeedKind
	for _, x := range l {
		out = append(out, x.Kind)
	}
	return out
}

// up is two lines that are up.
func up(t *testing.T) *two {
	t.Helper()
	w := both(t, of(1, 2), of(2, 1))
	w.want(0, true)
	w.want(1, true)
	w.all()
	w.at(api.FsmEstablished, api.FsmEstablished)
	return w
}

// P28.1: which lines may be.
func TestNew(t *testing.T) {
	for i, r := range []struct {
		change func(l *api.Line)
		e      api.Errno
	}{
		{func(l *api.Line) {}, api.OK},
		{func(l *api.Line) { l.Peer = 1 }, api.ErrArg},
		{func(l *api.Line) { l.Peering.PeerAs = 0 }, api.ErrArg},
		{func(l *api.Line) { l.Peering.Own.Hold = 1 }, api.ErrArg},
		{func(l *api.Line) { l.Peering.Retry = 0 }, api.ErrArg},
		{func(l *api.Line) { l.ISN = 1<<32 - 1 }, api.OK},
	} {
		l := of(1, 2)
		r.change(&l)
		n, e := line.New(l)
		if e != r.e || (n == nil) != (e != api.OK) {
			t.Error(i, e)
		}
		if s := n.State(); n != nil && (s.Wanted || s.Has || s.Waits != 0 || s.Fsm.At != api.FsmIdle || n.Ready()) {
			t.Error(i, s)
		}
	}
}

// P28.1: a call goes out as a tagged Syn; the ISNs of connections; keys that are not there.
func TestWant(t *testing.T) {
	l, k := made(t, of(1, 2)), ring(t, 2, 1, 2)
	segs, tidings, e := l.Want(keys.New(), true)
	if e != api.OK || len(segs) != 0 || len(tidings) != 0 {
		t.Error(segs, tidings, e)
	}
	if s := l.State(); !s.Wanted || s.Has || s.Fsm.At != api.FsmConnect {
		t.Error(s)
	}
	var isns []uint32
	for range 30 {
		segs, _, e := l.Tick(k)
		if e != api.OK {
			t.Fatal(e)
		}
		for _, s := range segs {
			if s.Flags != api.Syn || s.Ttl != 255 || !s.Has || s.From != 1 || s.To != 2 || s.FromPort != 179 || s.ToPort != 179 || s.Auth.Key != 1 || s.Auth.Next != 2 {
				t.Error(s)
			}
			if len(isns) == 0 || isns[len(isns)-1] != s.Seq {
				isns = append(isns, s.Seq)
			}
		}
	}
	// None was there at first: its ISN was not used.
	if !slices.Equal(isns, []uint32{1000, 65000, 129000, 193000, 257000, 321000}) {
		t.Error(isns)
	}
	segs, tidings, e = l.Want(k, false)
	if s := l.State(); e != api.OK || len(segs) != 0 || len(tidings) != 0 || s.Wanted || s.Has || s.Fsm.At != api.FsmIdle {
		t.Error(segs, tidings, e, s)
	}
	for range 10 {
		if segs, _, _ := l.Tick(k); len(segs) != 0 {
			t.Error("it is not wanted", segs)
		}
	}
	if segs, _, _ := l.Want(k, true); len(segs) != 1 || segs[0].Seq != 385000 {
		t.Error(segs)
	}
	if segs, _, _ := l.Want(k, true); len(segs) != 0 {
		t.Error("wanted twice", segs)
	}
}

// P28.1: two lines come up, say updates, fall back.
func TestTwo(t *testing.T) {
	w := up(t)
	for i := range w.sides {
		s := &w.sides[i]
		st := s.line.State()
		if !slices.Equal(kinds(s.tidings), []api.DeedKind{api.DeedOpen}) || s.tidings[0].Session.Hold != 9 || !st.Has || st.Stream.At != api.StreamOpen || !st.Guard.Learned || st.Waits != 0 || !s.line.Ready() {
			t.Error(i, s.tidings, st)
		}
	}
	w.say(0, news(1), api.Update{}, news(2))
	w.say(1)
	w.all()
	got := w.sides[1].tidings[1:]
	if !slices.Equal(kinds(got), []api.DeedKind{api.DeedUpdate, api.DeedUpdate, api.DeedUpdate}) || !update.Same(got[0].Update, news(1)) || !update.Same(got[1].Update, api.Update{}) || !update.Same(got[2].Update, news(2)) {
		t.Error(got)
	}
	w.ticks(100)
	w.at(api.FsmEstablished, api.FsmEstablished)
	w.say(1, news(3))
	w.want(1, false) // the update goes ahead of the notice, and of the reset
	w.all()
	if got := kinds(w.sides[0].tidings); !slices.Equal(got, []api.DeedKind{api.DeedOpen, api.DeedUpdate, api.DeedClose}) {
		t.Error(got)
	}
	if got := kinds(w.sides[1].tidings); !slices.Equal(got[len(got)-1:], []api.DeedKind{api.DeedClose}) {
		t.Error(got)
	}
	w.at(api.FsmIdle, api.FsmIdle)
	w.ticks(20)
	w.want(1, true)
	w.ticks(20)
	w.at(api.FsmEstablished, api.FsmEstablished)
}

// P28.1: many updates at once wait for room, and nothing may be said till then.
func TestWaits(t *testing.T) {
	w := up(t)
	var l []api.Update
	for n := range 20 {
		u := news(0)
		u.New = nil
		for i := range 90 {
			u.New = append(u.New, prefix(1000*n+i))
		}
		l = append(l, u)
	}
	w.say(0, l...)
	s := w.sides[0].line.State()
	if s.Waits == 0 || w.sides[0].line.Ready() || s.Stream.Written-s.Stream.Window.Acked > api.MaxBuffer {
		t.Error(s.Waits, s.Stream)
	}
	if segs, e := w.sides[0].line.Say(w.sides[0].keys, news(1)); segs != nil || e != api.ErrShy {
		t.Error(e)
	}
	w.all()
	if n := len(w.sides[1].tidings) - 1; n != 20 || !w.sides[0].line.Ready() {
		t.Error(n)
	}
	for i, x := range w.sides[1].tidings[1:] {
		if !update.Same(x.Update, l[i]) {
			t.Error(i)
		}
	}
}

// P28.1: what Say refuses, in its order.
func TestSayRefuse(t *testing.T) {
	bad := api.Update{New: []api.Prefix{prefix(1)}}
	var long api.Update
	for i := range 98 {
		long.Gone = append(long.Gone, prefix(i))
	}
	w := up(t)
	l := made(t, of(1, 2))
	for i, r := range []struct {
		of *line.Line
		u  []api.Update
		e  api.Errno
	}{
		{w.sides[0].line, []api.Update{news(1), bad}, api.ErrArg}, {w.sides[0].line, []api.Update{long, bad}, api.ErrArg}, {w.sides[0].line, []api.Update{news(1), long}, api.ErrLong},
		{l, []api.Update{long, bad}, api.ErrArg}, {l, []api.Update{long}, api.ErrLong}, {l, []api.Update{news(1)}, api.ErrShy}, {l, nil, api.ErrShy},
	} {
		if segs, e := r.of.Say(w.sides[0].keys, r.u...); segs != nil || e != r.e || r.of.State().Waits != 0 {
			t.Error(i, segs, e)
		}
	}
	if segs, e := w.sides[0].line.Say(w.sides[0].keys, bad, news(1)); segs != nil || e != api.ErrArg {
		t.Error(segs, e)
	}
	w.say(0, news(1))
	if len(w.sides[1].coming) != 1 {
		t.Error(len(w.sides[1].coming))
	}
}

// P28.1, P28.3: segments that are dropped change one number alone.
func TestDropped(t *testing.T) {
	w := up(t)
	a := &w.sides[0]
	w.say(1, news(1))
	right := a.coming[0]
	a.coming = nil
	for i, r := range []struct {
		change func(s *api.Seg)
		drop   api.Drop
		e      api.Errno
	}{
		{func(s *api.Seg) { s.FromPort = 1 }, api.DropEnds, api.OK}, {func(s *api.Seg) { s.To = 9 }, api.DropEnds, api.OK}, {func(s *api.Seg) { s.Ttl = 64 }, api.DropTtl, api.OK},
		{func(s *api.Seg) { s.Has, s.Auth = false, api.Auth{} }, api.DropBare, api.OK}, {func(s *api.Seg) { s.Auth.Key = 77 }, api.DropKey, api.OK}, {func(s *api.Seg) { s.Auth.Tag[5]++ }, api.DropTag, api.OK},
		{func(s *api.Seg) { s.Flags = api.Rst }, api.DropTag, api.OK},
		{func(s *api.Seg) { s.Flags = 16 }, api.DropNone, api.ErrArg}, {func(s *api.Seg) { s.Data = make([]byte, 65) }, api.DropNone, api.ErrArg}, {func(s *api.Seg) { s.Has = false }, api.DropNone, api.ErrArg},
	} {
		s := right
		r.change(&s)
		want := a.line.State()
		if r.e == api.OK {
			want.Dropped[r.drop]++
			want.Guard.Drops[r.drop]++
		}
		segs, tidings, drop, e := a.line.Come(a.keys, s)
		if got := a.line.State(); segs != nil || tidings != nil || drop != r.drop || e != r.e || got.Dropped != want.Dropped || got.Guard != want.Guard || got.Stream != want.Stream || got.Fsm.Hold != want.Fsm.Hold {
			t.Error(i, segs, tidings, drop, e, got)
		}
	}
	if segs, tidings, drop, e := a.line.Come(a.keys, right); drop != api.DropNone || e != api.OK || len(tidings) != 1 || len(segs) != 1 {
		t.Error(segs, tidings, drop, e)
	}
	// Drops are counted over all connections, also where there is none.
	was := a.line.State().Dropped
	if was != [6]int{0, 2, 1, 1, 1, 2} {
		t.Error(was)
	}
	w.want(0, false)
	if got := a.line.State(); got.Dropped != was || got.Has || got.Guard != (api.Guard{}) || got.Stream != (api.Stream{}) {
		t.Error(got)
	}
	segs, tidings, drop, e := a.line.Come(a.keys, right)
	was[api.DropEnds]++
	if segs != nil || tidings != nil || drop != api.DropEnds || e != api.OK || a.line.State().Dropped != was {
		t.Error(segs, tidings, drop, e)
	}
	bad := right
	bad.Flags = -1
	if _, _, drop, e := a.line.Come(a.keys, bad); drop != api.DropNone || e != api.ErrArg {
		t.Error(drop, e)
	}
}

// P28.1: names and systems that don't fit; both sides passive; one side passive.
func TestFits(t *testing.T) {
	notices := func(a, b api.Line) *two {
		w := both(t, a, b)
		w.want(0, true)
		w.want(1, true)
		w.ticks(200)
		return w
	}
	other := of(2, 1)
	other.Peering.Own.Id = 21 // not the name that the first one knows
	w := notices(of(1, 2), other)
	if len(w.sides[0].tidings)+len(w.sides[1].tidings) != 0 {
		t.Error("another name")
	}
	other = of(2, 1)
	other.Peering.Own.As = 3
	w = notices(of(1, 2), other)
	if len(w.sides[0].tidings)+len(w.sides[1].tidings) != 0 {
		t.Error("another system")
	}
	passive := of(2, 1)
	passive.Peering.Passive = true
	w = notices(of(1, 2), passive)
	w.at(api.FsmEstablished, api.FsmEstablished)
	too := of(1, 2)
	too.Peering.Passive = true
	w = notices(too, passive)
	w.at(api.FsmActive, api.FsmActive)
}

// hand is the other end of a line, laid by hand: it says what it likes.
type hand struct {
	t     *testing.T
	line  *line.Line
	own   *keys.Keys // the line's
	guard *ao.Guard
	end   *stream.Stream
	keys  *keys.Keys
	said  []byte // what the line said

	coming []api.Seg // to the hand
}

// handOf is a hand at the other end of a line; its stream is of that ISN.
func handOf(t *testing.T, l api.Line, isn uint32, calls bool) (*hand, []api.Seg) {
	t.Helper()
	h := &hand{t: t, line: made(t, l), own: ring(t, l.Peer, 1, 2), keys: ring(t, l.Local, 2, 1)}
	return h, h.begin(isn, calls)
}

// begin begins a connection, in place of the one that was there.
func (h *hand) begin(isn uint32, calls bool) []api.Seg {
	h.t.Helper()
	var e api.Errno
	h.guard, e = ao.New(h.keys, api.Conn{Local: 2, Peer: 1, LocalPort: 179, PeerPort: 179, LocalISN: isn})
	if e != api.OK {
		h.t.Fatal(e)
	}
	end, parts := stream.New(isn, calls)
	h.end = end
	return h.tagged(parts...)
}

func (h *hand) tagged(parts ...api.Part) []api.Seg {
	h.t.Helper()
	var l []api.Seg
	for _, p := range parts {
		s, e := h.guard.Out(h.keys, api.Seg{Flags: p.Flags, Seq: p.Seq, Ack: p.Ack, Window: p.Window, Data: p.Data})
		if e != api.OK {
			h.t.Fatal(e)
		}
		l = append(l, s)
	}
	return l
}

// gives lets segments come to the line, and all that is answered to and fro, in order.
func (h *hand) gives(segs ...api.Seg) []api.Tiding {
	h.t.Helper()
	var all []api.Tiding
	for _, s := range segs {
		there := h.line.State().Has
		back, tidings, drop, e := h.line.Come(h.own, s)
		if there && drop != api.DropNone || e != api.OK {
			h.t.Fatal(drop, e)
		}
		h.coming = append(h.coming, back...)
		all = append(all, tidings...)
	}
	if len(h.coming) == 0 {
		return all
	}
	return append(all, h.gets()...)
}

// gets takes what the line sends, behind what it sent.
func (h *hand) gets(segs ...api.Seg) []api.Tiding {
	h.t.Helper()
	var answers []api.Seg
	all := append(h.coming, segs...)
	h.coming = nil
	for _, s := range all {
		if d, e := h.guard.In(h.keys, s); d != api.DropNone || e != api.OK {
			h.t.Fatal(d, e)
		}
		parts, _ := h.end.Come(api.Part{Flags: s.Flags, Seq: s.Seq, Ack: s.Ack, Window: s.Window, Data: s.Data})
		if x := h.end.State(); (x.At == api.StreamHeard || x.At == api.StreamOpen) && h.guard.State().PeerISN != x.Peer {
			h.guard.Learn(x.Peer)
		}
		b, more := h.end.Read()
		h.said = append(h.said, b...)
		answers = append(answers, h.tagged(append(parts, more...)...)...)
	}
	return h.gives(answers...)
}

func (h *hand) writes(b []byte) []api.Tiding {
	h.t.Helper()
	parts, e := h.end.Write(b)
	if e != api.OK {
		h.t.Fatal(e)
	}
	return h.gives(h.tagged(parts...)...)
}

func (h *hand) wanted() []api.Seg {
	h.t.Helper()
	segs, _, e := h.line.Want(h.own, true)
	if e != api.OK {
		h.t.Fatal(e)
	}
	return segs
}

func raw(t *testing.T, m api.Message) []byte {
	t.Helper()
	b, e := msg.Raw(m)
	if e != api.OK {
		t.Fatal(e)
	}
	return b
}

func hello(as, id uint32) api.Message {
	return api.Message{Kind: api.MsgOpen, Open: api.Open{As: as, Hold: 9, Id: id}}
}

// P28.1: what a peer says that is no message, or an opening of another name; a flaw is told once.
func TestFlaw(t *testing.T) {
	for i, r := range []struct {
		said      []byte
		code, sub uint8
	}{
		{make([]byte, 19), 1, 1},
		{append(make([]byte, 19), make([]byte, 900)...), 1, 1},
		{raw(t, hello(2, 21)), 2, 3},
		{raw(t, hello(3, 20)), 2, 2},
		{raw(t, api.Message{Kind: api.MsgKeep}), 5, 1},
	} {
		h, _ := handOf(t, of(1, 2), 7, false)
		if _, e := h.end.Write(r.said); e != api.OK {
			t.Fatal(e)
		}
		if tidings := h.gets(h.wanted()...); len(tidings) > 0 {
			t.Error(tidings)
		}
		reader := msg.New()
		reader.Write(h.said)
		first, _, _ := reader.Next()
		second, is, e := reader.Next()
		if first.Kind != api.MsgOpen || !is || e != api.OK || second.Kind != api.MsgNotice || second.Notice.Code != r.code || second.Notice.Sub != r.sub {
			t.Error(i, first, second, is, e)
		}
		if s := h.line.State(); s.Has || s.Fsm.At != api.FsmIdle || h.end.State().At != api.StreamDone {
			t.Error(i, s, h.end.State())
		}
	}
}

// P28.1: what comes byte by byte is read as it comes.
func TestByteByByte(t *testing.T) {
	h, _ := handOf(t, of(1, 2), 7, false)
	h.gets(h.wanted()...)
	var tidings []api.Tiding
	for _, m := range []api.Message{hello(2, 20), {Kind: api.MsgKeep}, {Kind: api.MsgUpdate, Update: news(3)}} {
		b := raw(t, m)
		for i := range b {
			if len(tidings) > 1 {
				t.Fatal("told too early")
			}
			tidings = append(tidings, h.writes(b[i:i+1])...)
			if h.line.State().Stream.Unread != 0 {
				t.Fatal("what came is not read")
			}
		}
	}
	if !slices.Equal(kinds(tidings), []api.DeedKind{api.DeedOpen, api.DeedUpdate}) || !update.Same(tidings[1].Update, news(3)) {
		t.Error(tidings)
	}
	if s := h.line.State(); s.Stream.Unread != 0 || s.Guard.In <= int64(s.Guard.PeerISN) {
		t.Error("the mark of what comes is the first number still", s.Guard)
	}
}

// P28.1: the peer's ISN is learned when the stream has heard it, and anew where it is another one.
func TestLearns(t *testing.T) {
	passive := of(1, 2)
	passive.Peering.Passive = true
	h, syn := handOf(t, passive, 7, true)
	h.wanted()
	knows := func(learned bool, isn uint32) {
		t.Helper()
		if g := h.line.State().Guard; g.Learned != learned || g.PeerISN != isn {
			t.Error(g)
		}
	}
	come := func(s api.Seg) {
		t.Helper()
		if _, _, drop, e := h.line.Come(h.own, s); drop != api.DropNone || e != api.OK {
			t.Fatal(drop, e)
		}
	}
	knows(false, 0)
	come(syn[0])
	knows(true, 7)
	come(h.begin(9000, true)[0])
	knows(true, 9000)
	// Who calls learns nothing of what it does not heed.
	h, _ = handOf(t, of(1, 2), 7, false)
	h.wanted()
	h.guard.Learn(1000)
	come(h.tagged(api.Part{Flags: api.Syn | api.Ack, Seq: 7, Ack: 5})[0])
	knows(false, 0)
}

// P28.1: a tick is the stream's, too: what was lost is sent again; what is given up lets the session down.
func TestTick(t *testing.T) {
	l := of(1, 2)
	l.Peering.Retry = 1000
	h, _ := handOf(t, l, 7, false)
	syn := h.wanted()
	var again []int
	for n := range 191 {
		segs, tidings, e := h.line.Tick(h.own)
		if e != api.OK || len(tidings) > 0 || len(segs) > 0 && segs[0].Seq != syn[0].Seq {
			t.Fatal(segs, tidings, e)
		}
		if len(segs) > 0 {
			again = append(again, n+1)
		}
	}
	// Eight times, and then it is not tried any more: one is awaited.
	if s := h.line.State(); !slices.Equal(again, []int{2, 6, 14, 30, 62, 94, 126, 158}) || s.Fsm.At != api.FsmActive || s.Stream.At != api.StreamListen || s.Guard.LocalISN != 65000 {
		t.Error(again, s)
	}
	// A session whose stream breaks closes.
	a, b := of(1, 2), of(2, 1)
	a.Peering.Own.Hold, b.Peering.Own.Hold = 60000, 60000
	w := both(t, a, b)
	w.want(0, true)
	w.want(1, true)
	w.all()
	w.say(0, news(1))
	w.sides[1].coming = nil
	for range 250 {
		w.tick(0)
		w.sides[1].coming = nil
	}
	if got := kinds(w.sides[0].tidings); !slices.Equal(got, []api.DeedKind{api.DeedOpen, api.DeedClose}) {
		t.Error(got)
	}
}

// P28.1: drops are counted over connections that take one another's place; segments at their bounds may come.
func TestDroppedOver(t *testing.T) {
	passive := of(1, 2)
	passive.Peering.Passive = true
	h, _ := handOf(t, passive, 7, true)
	h.wanted()
	for i, s := range []api.Seg{{Flags: 15}, {Flags: 0, Data: make([]byte, 64)}, {Flags: 8, Has: true, Auth: api.Auth{Key: 3}}} {
		isn := h.line.State().Guard.LocalISN
		if _, _, drop, e := h.line.Come(h.own, s); drop != api.DropEnds || e != api.OK {
			t.Error(i, drop, e)
		}
		for range 5 {
			h.line.Tick(h.own)
		}
		if x := h.line.State(); x.Dropped != [6]int{0, i + 1} || x.Guard.Drops != [6]int{} || x.Guard.LocalISN != isn+64000 {
			t.Error(i, x.Dropped, x.Guard)
		}
	}
}

// P28.2: copies, none, no keys.
func TestCopyNone(t *testing.T) {
	w := up(t)
	a := &w.sides[0]
	c := a.line.Copy()
	if segs, e := c.Say(a.keys, news(1)); e != api.OK || len(segs) == 0 || a.line.State().Stream.Written == c.State().Stream.Written {
		t.Error(segs, e)
	}
	for range 9 {
		c.Tick(a.keys)
	}
	if c.State().Fsm.At != api.FsmIdle {
		t.Error(c.State())
	}
	w.ticks(5)
	w.at(api.FsmEstablished, api.FsmEstablished)
	refused, _ := line.New(api.Line{})
	for i, r := range []struct {
		l *line.Line
		k *keys.Keys
	}{{nil, a.keys}, {&line.Line{}, a.keys}, {refused, a.keys}, {a.line, nil}, {a.line, &keys.Keys{}}, {nil, nil}} {
		s1, t1, e1 := r.l.Want(r.k, false)
		s2, t2, e2 := r.l.Tick(r.k)
		s3, t3, d3, e3 := r.l.Come(r.k, api.Seg{Flags: 16})
		s4, e4 := r.l.Say(r.k, api.Update{New: []api.Prefix{{}}})
		for j, e := range []api.Errno{e1, e2, e3, e4} {
			if e != api.ErrNil {
				t.Error(i, j, e)
			}
		}
		if len(s1)+len(s2)+len(s3)+len(s4)+len(t1)+len(t2)+len(t3)+int(d3) != 0 {
			t.Error(i, "answers beside an error")
		}
		if r.l != a.line && (r.l.Ready() || r.l.Copy() != nil || r.l.State().Fsm.At != 0) {
			t.Error(i, "none answers")
		}
	}
	w.at(api.FsmEstablished, api.FsmEstablished)
}
