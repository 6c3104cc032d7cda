package world_test

import (
	"bytes"
	"maps"
	"slices"
	"testing"

	"pursuivant/api"
	"pursuivant/attrs"
	"pursuivant/rib"
	"pursuivant/seg"
	"pursuivant/world"
)

var pass = api.Policy{Else: true}

// router is the one of that number among n, all of which are neighbors.
func router(i, n uint32) api.Router {
	r := api.Router{Self: api.Self{As: i, Id: i, Addr: i}, Hold: 9, ISN: 1000 * i}
	for m := uint32(1); m <= n; m++ {
		if m != i {
			r.Neighbors = append(r.Neighbors, api.Neighbor{Addr: m, As: m, Id: m, Retry: 3, In: pass, Out: pass})
		}
	}
	return r
}

func routers(n uint32) []api.Router {
	var l []api.Router
	for i := range n {
		l = append(l, router(i+1, n))
	}
	return l
}

func made(t *testing.T, l ...api.Router) *world.World {
	t.Helper()
	w, e := world.New(l...)
	if e != api.OK {
		t.Fatal(e)
	}
	return w
}

func mkt(peer uint32, n uint8) api.Mkt {
	return api.Mkt{Peer: peer, Send: n, Recv: n, Alg: api.AlgCmac, Master: "m"}
}

func turn(k api.TurnKind, who, n int) api.Turn { return api.Turn{Kind: k, Who: who, N: n} }

func prefix(n int) api.Prefix { return api.Prefix{Addr: uint32(n), Len: 32} }

var said = api.Attrs{Next: 77}

func does(t *testing.T, w *world.World, l ...api.Turn) {
	t.Helper()
	for i, e := range w.Run(l...) {
		if e != api.OK {
			t.Fatal(l[i], e)
		}
	}
}

func state(t *testing.T, w *world.World, n int) api.SpeakerState {
	t.Helper()
	s, e := w.Speaker(n)
	if e != api.OK {
		t.Fatal(e)
	}
	return s.State()
}

// settle delivers all, in order.
func settle(t *testing.T, w *world.World) {
	t.Helper()
	for len(w.Bag()) > 0 {
		if e := w.Turn(turn(api.TurnDeliver, 0, 0)); e != api.OK {
			t.Fatal(e)
		}
	}
}

// wanting is n routers with keys, that want each other.
func wanting(t *testing.T, n uint32) *world.World {
	t.Helper()
	w := made(t, routers(n)...)
	for i := range n {
		for m := uint32(1); m <= n; m++ {
			if m != i+1 {
				does(t, w, api.Turn{Kind: api.TurnKey, Who: int(i), Mkt: mkt(m, 1)})
			}
		}
	}
	for i := range int(n) {
		for m := range int(n) - 1 {
			does(t, w, turn(api.TurnWant, i, m))
		}
	}
	return w
}

// P30.1: which worlds may be.
func TestNew(t *testing.T) {
	twice := routers(2)
	twice[1].Self.Addr = 1
	twice[1].Neighbors = nil
	wrong := routers(2)
	wrong[1].Hold = 2
	for i, r := range []struct {
		l []api.Router
		e api.Errno
	}{
		{nil, api.ErrArg}, {routers(1), api.OK}, {routers(4), api.OK}, {routers(5)[:4], api.OK}, {append(routers(4), router(9, 0)), api.ErrArg}, {twice, api.ErrArg}, {wrong, api.ErrArg},
		{[]api.Router{router(1, 6)}, api.ErrArg}, {[]api.Router{{}}, api.ErrArg},
	} {
		w, e := world.New(r.l...)
		if e != r.e || (w == nil) != (e != api.OK) || w != nil && (w.Len() != len(r.l) || len(w.Bag()) != 0) {
			t.Error(i, e)
		}
	}
}

// P30.1: what turns are answered, in the order of the errors.
func TestTurnRefuse(t *testing.T) {
	w := made(t, routers(2)...)
	long := make([]byte, 1001)
	for i, r := range []struct {
		t api.Turn
		e api.Errno
	}{
		{api.Turn{}, api.ErrArg}, {turn(13, 0, 0), api.ErrArg}, {turn(-1, 0, 0), api.ErrArg}, {turn(0, 9, 0), api.ErrArg},
		{turn(api.TurnTick, 2, 0), api.ErrRange}, {turn(api.TurnTick, -1, 0), api.ErrRange}, {turn(api.TurnKey, 2, 0), api.ErrRange}, {turn(api.TurnLost, 1<<40, 0), api.ErrRange},
		{turn(api.TurnKey, 0, 0), api.ErrArg}, {turn(api.TurnUnkey, 0, 0), api.ErrNone}, {turn(api.TurnPrefer, 0, 0), api.ErrNone},
		{turn(api.TurnWant, 0, 1), api.ErrRange}, {turn(api.TurnLeave, 0, -1), api.ErrRange}, {turn(api.TurnWant, 0, 0), api.OK}, {turn(api.TurnLeave, 0, 0), api.OK},
		{turn(api.TurnOwn, 0, 0), api.ErrArg}, {turn(api.TurnLost, 0, 0), api.ErrNone},
		{turn(api.TurnDeliver, 9, 0), api.ErrNone}, {turn(api.TurnDouble, -9, 4), api.ErrNone}, {turn(api.TurnDrop, 9, -4), api.ErrNone},
		{api.Turn{Kind: api.TurnForge, Bytes: long}, api.ErrLong}, {api.Turn{Kind: api.TurnForge, Who: 99, Bytes: long[:1000]}, api.OK}, {api.Turn{Kind: api.TurnForge}, api.OK},
	} {
		if e := w.Turn(r.t); e != r.e {
			t.Error(i, e)
		}
	}
	if b := w.Bag(); len(b) != 2 || len(b[0]) != 1000 || len(b[1]) != 0 {
		t.Error(len(b))
	}
	if l := w.Run(turn(0, 0, 0), turn(api.TurnTick, 0, 0), turn(api.TurnTick, 7, 0)); !slices.Equal(l, []api.Errno{api.ErrArg, api.OK, api.ErrRange}) {
		t.Error(l)
	}
	if l := w.Run(); len(l) != 0 {
		t.Error(l)
	}
}

// P30.1: somebody's turns reach that speaker.
func TestTurns(t *testing.T) {
	w := made(t, routers(2)...)
	does(t, w, api.Turn{Kind: api.TurnKey, Who: 1, Mkt: mkt(1, 4)}, api.Turn{Kind: api.TurnKey, Who: 1, Mkt: mkt(1, 5)},
		api.Turn{Kind: api.TurnPrefer, Who: 1, Mkt: api.Mkt{Peer: 1, Send: 5}}, api.Turn{Kind: api.TurnUnkey, Who: 1, Mkt: api.Mkt{Peer: 1, Send: 4}},
		api.Turn{Kind: api.TurnOwn, Who: 1, Prefix: prefix(3), Attrs: said}, api.Turn{Kind: api.TurnOwn, Who: 1, Prefix: prefix(4), Attrs: said}, api.Turn{Kind: api.TurnLost, Who: 1, Prefix: prefix(3)},
		turn(api.TurnWant, 1, 0))
	s, _ := w.Speaker(1)
	if l := s.Keys().All(); len(l) != 1 || l[0].Send != 5 || s.State().Routes != 1 || !s.State().Lines[0].Wanted {
		t.Error(s.State())
	}
	if x := state(t, w, 0); x.Routes != 0 || x.Lines[0].Wanted {
		t.Error(x)
	}
	b := w.Bag()
	if len(b) != 1 {
		t.Fatal(len(b))
	}
	if x, e := seg.Parse(b[0]); e != api.OK || x.From != 2 || x.To != 1 || x.Flags != api.Syn {
		t.Error(x, e)
	}
	does(t, w, turn(api.TurnTick, 1, 0), turn(api.TurnTick, 1, 0))
	if b := w.Bag(); len(b) != 2 || !bytes.Equal(b[0], b[1]) {
		t.Error("the Syn again", len(b))
	}
	does(t, w, turn(api.TurnLeave, 1, 0))
	if state(t, w, 1).Lines[0].Wanted {
		t.Error("Leave")
	}
}

// P30.1: picks; deliver, double, drop.
func TestPicks(t *testing.T) {
	w := made(t, routers(2)...)
	forge := func(b ...byte) { does(t, w, api.Turn{Kind: api.TurnForge, Bytes: b}) }
	holds := func(want ...byte) {
		t.Helper()
		var got []byte
		for _, b := range w.Bag() {
			got = append(got, b[0])
		}
		if !bytes.Equal(got, want) {
			t.Error(got, "not", want)
		}
	}
	for i := range byte(5) {
		forge(i, 0, 0, 0, 0, 0, 0, 1)
	}
	for i, r := range []struct {
		kind api.TurnKind
		n    int
		e    api.Errno
		left []byte
	}{
		{api.TurnDrop, 7, api.OK, []byte{0, 1, 3, 4}},
		{api.TurnDrop, -1, api.OK, []byte{0, 1, 3}},
		{api.TurnDrop, -1 << 63, api.OK, []byte{0, 3}}, // -2^63 modulo 3 is 1
		{api.TurnDouble, 1, api.ErrFew, []byte{0, 3}},
		{api.TurnDeliver, 1<<63 - 1, api.ErrFew, []byte{0}},
		{api.TurnDeliver, -5, api.ErrFew, nil},
	} {
		if e := w.Turn(turn(r.kind, 0, r.n)); e != r.e {
			t.Error(i, e)
		}
		holds(r.left...)
	}
	if x, y := state(t, w, 0), state(t, w, 1); x.Bad != 3 || y.Bad != 0 {
		t.Error(x.Bad, y.Bad)
	}
	forge(1, 2, 3)
	forge(9, 0, 0, 0, 0, 0, 0, 9)
	forge(9, 0, 0, 0, 1, 0, 0, 1)
	for range 3 {
		if e := w.Turn(turn(api.TurnDeliver, 0, 0)); e != api.ErrNone {
			t.Error(e)
		}
	}
	if x := state(t, w, 0); x.Bad != 3 || x.Strange != 0 {
		t.Error(x)
	}
	does(t, w, api.Turn{Kind: api.TurnForge})
	if e := w.Turn(turn(api.TurnDeliver, 0, 0)); e != api.ErrNone {
		t.Error("no bytes", e)
	}
	// One that no neighbor sent is strange.
	b, _ := seg.Raw(api.Seg{From: 7, To: 2})
	forge(b...)
	if e := w.Turn(turn(api.TurnDeliver, 0, 0)); e != api.ErrNone || state(t, w, 1).Strange != 1 {
		t.Error(e)
	}
	// One that is dropped is none.
	b, _ = seg.Raw(api.Seg{From: 1, To: 2})
	forge(b...)
	if e := w.Turn(turn(api.TurnDeliver, 0, 0)); e != api.OK || state(t, w, 1).Lines[0].Dropped[api.DropEnds] != 1 {
		t.Error(e)
	}
}

// P30.1: a datagram comes to whom its bytes name.
func TestAddresses(t *testing.T) {
	l := routers(2)
	l[1].Self.Addr = 0x01020304
	l[1].Neighbors = nil
	w := made(t, l...)
	for _, to := range [][]byte{{1, 2, 3, 4}, {0, 0, 0, 1}, {4, 3, 2, 1}, {0, 2, 3, 4}} {
		does(t, w, api.Turn{Kind: api.TurnForge, Bytes: append(make([]byte, 4), to...)})
		w.Turn(turn(api.TurnDeliver, 0, 0))
	}
	if a, b := state(t, w, 0), state(t, w, 1); a.Bad != 1 || b.Bad != 1 {
		t.Error(a.Bad, b.Bad)
	}
}

// P30.1: what is put where MaxBag are in the bag is lost.
func TestBagBound(t *testing.T) {
	w := made(t, routers(2)...)
	does(t, w, api.Turn{Kind: api.TurnKey, Mkt: mkt(2, 1)})
	given := []byte{0, 0, 0, 0, 0, 0, 0, 9}
	for range api.MaxBag {
		does(t, w, api.Turn{Kind: api.TurnForge, Bytes: given})
	}
	given[7] = 1 // what was handed in is not kept
	does(t, w, api.Turn{Kind: api.TurnForge, Bytes: []byte{5}}, turn(api.TurnWant, 0, 0))
	b := w.Bag()
	if len(b) != api.MaxBag || b[255][7] != 9 {
		t.Error(len(b))
	}
	b[0][7] = 1
	if w.Bag()[0][7] != 9 {
		t.Error("Bag shares memory")
	}
	does(t, w, turn(api.TurnDrop, 0, 0), turn(api.TurnLeave, 0, 0), turn(api.TurnWant, 0, 0))
	if b := w.Bag(); len(b) != api.MaxBag || len(b[255]) < 30 {
		t.Error(len(b))
	}
}

// P30.2: copies, none.
func TestCopyNone(t *testing.T) {
	w := wanting(t, 2)
	c := w.Copy()
	settle(t, c)
	if len(w.Bag()) == 0 || state(t, w, 0).Lines[0].Fsm.At == api.FsmEstablished || state(t, c, 0).Lines[0].Fsm.At != api.FsmEstablished {
		t.Error("a copy goes on apart")
	}
	s, _ := c.Speaker(0)
	s.Want(0, false)
	if state(t, c, 0).Lines[0].Fsm.At != api.FsmEstablished {
		t.Error("Speaker is a copy")
	}
	for _, n := range []int{-1, 2, 1 << 40} {
		if s, e := c.Speaker(n); s != nil || e != api.ErrRange {
			t.Error(n, e)
		}
	}
	refused, _ := world.New()
	for _, none := range []*world.World{nil, {}, refused} {
		s, e := none.Speaker(0)
		if s != nil || e != api.ErrNil || none.Turn(api.Turn{}) != api.ErrNil || none.Bag() != nil || none.Len() != 0 || none.Copy() != nil {
			t.Error("none answers")
		}
		if l := none.Run(api.Turn{}, api.Turn{}); !slices.Equal(l, []api.Errno{api.ErrNil, api.ErrNil}) {
			t.Error(l)
		}
	}
}

// P30.1: the rows of the examples.
func TestRows(t *testing.T) {
	w := wanting(t, 2)
	settle(t, w)
	for n := range 2 {
		if state(t, w, n).Lines[0].Fsm.At != api.FsmEstablished {
			t.Error(n)
		}
	}
	does(t, w, api.Turn{Kind: api.TurnOwn, Prefix: api.Prefix{Addr: 0x0a000000, Len: 8}, Attrs: said})
	settle(t, w)
	if state(t, w, 1).Routes != 1 {
		t.Error("no route")
	}
	does(t, w, api.Turn{Kind: api.TurnForge, Bytes: []byte{0, 0, 0, 0, 0, 0, 0, 2}}, api.Turn{Kind: api.TurnForge, Bytes: []byte{1, 2, 3}})
	if a, b := w.Turn(turn(api.TurnDeliver, 0, 0)), w.Turn(turn(api.TurnDeliver, 0, 0)); a != api.ErrFew || b != api.ErrNone || state(t, w, 1).Bad != 1 {
		t.Error(a, b)
	}
}

// numbers is what a world's speakers count, whatever else there is.
func sameButNumbers(a, b *world.World) (bool, int) {
	other, changed := false, 0
	for n := range a.Len() {
		x, _ := a.Speaker(n)
		y, _ := b.Speaker(n)
		s, u := x.State(), y.State()
		other = other || !rib.Same(x.Rib(), y.Rib())
		changed += u.Bad - s.Bad + u.Strange - s.Strange
		for i := range s.Lines {
			for why := range s.Lines[i].Dropped {
				changed += u.Lines[i].Dropped[why] - s.Lines[i].Dropped[why]
			}
			other = other || s.Lines[i].Stream != u.Lines[i].Stream || s.Lines[i].Fsm.At != u.Lines[i].Fsm.At || s.Lines[i].Waits != u.Lines[i].Waits
		}
	}
	return !other, changed
}

// P30.3: whatever is forged that no speaker tagged changes one number of one speaker alone.
func TestForged(t *testing.T) {
	w := wanting(t, 2)
	settle(t, w)
	does(t, w, turn(api.TurnTick, 0, 0), turn(api.TurnTick, 0, 0), turn(api.TurnTick, 0, 0))
	real := w.Bag()[0]
	settle(t, w)
	for i := range len(real) * 8 {
		b := bytes.Clone(real)
		b[i/8] ^= 1 << (i % 8)
		if i/8 == 8 && b[8] >= 254 {
			continue // the Ttl is not tagged
		}
		// With the right sum, too: whoever forges can work it out.
		forged := [][]byte{b}
		if s, e := seg.Parse(real); e == api.OK && i < 96 {
			s.Auth.Tag[i/8] ^= 1 << (i % 8)
			raw, _ := seg.Raw(s)
			forged = append(forged, raw)
			s, _ = seg.Parse(real)
			s.Flags = api.Flags(i % 16)
			if s.Flags != api.Ack {
				raw, _ = seg.Raw(s)
				forged = append(forged, raw)
			}
		}
		for _, f := range forged {
			before := w.Copy()
			does(t, w, api.Turn{Kind: api.TurnForge, Bytes: f})
			e := w.Turn(turn(api.TurnDeliver, 0, 0))
			if same, n := sameButNumbers(before, w); !same || n != 1 && e != api.ErrNone || n > 1 || len(w.Bag()) != 0 {
				t.Fatal(i, e, same, n)
			}
		}
	}
}

type picks uint32

func (p *picks) pick(n int) int {
	*p = *p*1664525 + 1013904223
	return int(uint32(*p) >> 10 % uint32(n))
}

// wants is the best routes that come of all own ones, where all are neighbors: own, else the one of the least name of those that have it.
func wants(own []map[int]bool, at int) map[api.Prefix]uint32 {
	l := map[api.Prefix]uint32{}
	for i := len(own) - 1; i >= 0; i-- {
		for n := range own[i] {
			l[prefix(n)] = uint32(i + 1)
		}
	}
	for n := range own[at] {
		l[prefix(n)] = 0
	}
	return l
}

// P30.4, P0.1, P0.4: behind whatever there was, sessions come up, and each one's routes are those that come of what all tell.
func TestLives(t *testing.T) {
	for seed := range 24 {
		p := picks(seed * 9973)
		n := 2 + seed%3
		w := wanting(t, uint32(n))
		own := make([]map[int]bool, n)
		for i := range own {
			own[i] = map[int]bool{}
		}
		for range 2000 {
			who := p.pick(n)
			switch what := p.pick(100); {
			case what < 60:
				w.Turn(turn(api.TurnDeliver, 0, p.pick(8)))
			case what < 64:
				w.Turn(turn(api.TurnDouble, 0, p.pick(999)))
			case what < 68:
				w.Turn(turn(api.TurnDrop, 0, p.pick(999)))
			case what < 84:
				w.Turn(turn(api.TurnTick, who, 0))
			case what < 90:
				x := p.pick(10)
				does(t, w, api.Turn{Kind: api.TurnOwn, Who: who, Prefix: prefix(x), Attrs: said})
				own[who][x] = true
			case what < 95:
				x := p.pick(10)
				if e := w.Turn(api.Turn{Kind: api.TurnLost, Who: who, Prefix: prefix(x)}); (e == api.OK) != own[who][x] {
					t.Fatal(e)
				}
				delete(own[who], x)
			case what < 97:
				does(t, w, turn(api.TurnLeave, who, p.pick(n-1)))
			default:
				does(t, w, turn(api.TurnWant, who, p.pick(n-1)))
			}
		}
		for i := range n {
			for m := range n - 1 {
				does(t, w, turn(api.TurnWant, i, m))
			}
		}
		for range 600 { // a half-open attempt may last as long as its first Hold, 240 ticks
			for i := range n {
				does(t, w, turn(api.TurnTick, i, 0))
				settle(t, w)
			}
		}
		for i := range n {
			s, _ := w.Speaker(i)
			for m, l := range s.State().Lines {
				if l.Fsm.At != api.FsmEstablished {
					t.Fatal(seed, i, m, l.Fsm)
				}
			}
			got := map[api.Prefix]uint32{}
			for p, b := range s.Rib().All() {
				got[p] = b.Route.Peer.As
				if attrs.Has(b.Route.Attrs, uint32(i+1)) {
					t.Fatal("it was here already")
				}
			}
			if want := wants(own, i); !maps.Equal(got, want) {
				t.Fatal(seed, i, got, want)
			}
		}
	}
}
