package script_test

import (
	"bytes"
	"slices"
	"strings"
	"testing"

	"pursuivant/api"
	"pursuivant/attrs"
	"pursuivant/script"
	"pursuivant/world"
)

func same(a, b api.Turn) bool {
	return a.Kind == b.Kind && a.Who == b.Who && a.N == b.N && a.Mkt == b.Mkt && a.Prefix == b.Prefix && attrs.Same(a.Attrs, b.Attrs) && bytes.Equal(a.Bytes, b.Bytes)
}

var ten = api.Prefix{Addr: 0x0a000000, Len: 8}

// one is a turn of each kind, with all that it names.
func one(k api.TurnKind) api.Turn {
	t := api.Turn{Kind: k}
	if k <= api.TurnTick {
		t.Who = 3
	}
	switch k {
	case api.TurnKey:
		t.Mkt = api.Mkt{Peer: 255, Send: 5, Recv: 6, Alg: 2, Master: "abc"}
	case api.TurnUnkey, api.TurnPrefer:
		t.Mkt = api.Mkt{Peer: 7, Send: 8}
	case api.TurnWant, api.TurnLeave, api.TurnDeliver, api.TurnDouble, api.TurnDrop:
		t.N = 255
	case api.TurnOwn:
		t.Prefix, t.Attrs = ten, api.Attrs{Origin: 2, Next: 9, HasMed: true, Med: 4}
	case api.TurnLost:
		t.Prefix = ten
	case api.TurnForge:
		t.Bytes = []byte{1, 2, 3}
	}
	return t
}

var raws = map[api.TurnKind][]byte{
	api.TurnKey: {0, 3, 255, 5, 6, 2, 3, 'a', 'b', 'c'}, api.TurnUnkey: {1, 3, 7, 8}, api.TurnPrefer: {2, 3, 7, 8}, api.TurnWant: {3, 3, 255}, api.TurnLeave: {4, 3, 255},
	api.TurnOwn: {5, 3, 8, 10, 0, 0, 0, 2, 9, 1, 4}, api.TurnLost: {6, 3, 8, 10, 0, 0, 0}, api.TurnTick: {7, 3}, api.TurnDeliver: {8, 255}, api.TurnDouble: {9, 255}, api.TurnDrop: {10, 255}, api.TurnForge: {11, 3, 0, 1, 2, 3},
}

// P31.1: turns that may be told, and their bytes.
func TestCheckRaw(t *testing.T) {
	var all []api.Turn
	var text []byte
	for k := api.TurnKey; k <= api.TurnForge; k++ {
		b, e := script.Raw(one(k))
		if e != api.OK || script.Check(one(k)) != api.OK || !bytes.Equal(b, raws[k]) {
			t.Error(k, b, e)
		}
		all, text = append(all, one(k)), append(text, raws[k]...)
	}
	if b, e := script.Raw(all...); e != api.OK || !bytes.Equal(b, text) {
		t.Error(b, e)
	}
	if b, e := script.Raw(); len(b) != 0 || e != api.OK {
		t.Error(b, e)
	}
	changes := map[string]func(x *api.Turn){
		"Who 4": func(x *api.Turn) { x.Who = 4 }, "Who -1": func(x *api.Turn) { x.Who = -1 }, "Who 259": func(x *api.Turn) { x.Who = 259 },
		"N 256": func(x *api.Turn) { x.N = 256 }, "N -1": func(x *api.Turn) { x.N = -1 },
		"Peer": func(x *api.Turn) { x.Mkt.Peer = 256 }, "Alg 3": func(x *api.Turn) { x.Mkt.Alg = 3 }, "Alg -1": func(x *api.Turn) { x.Mkt.Alg = -1 }, "Alg 258": func(x *api.Turn) { x.Mkt.Alg = 258 },
		"Master": func(x *api.Turn) { x.Mkt.Master = strings.Repeat("m", 256) }, "Len": func(x *api.Turn) { x.Prefix.Len = 33 }, "Addr": func(x *api.Turn) { x.Prefix.Addr = 0x0a000001 },
		"Origin": func(x *api.Turn) { x.Attrs.Origin = 3 }, "Next": func(x *api.Turn) { x.Attrs.Next = 256 }, "Med": func(x *api.Turn) { x.Attrs.HasMed, x.Attrs.Med = true, 256 },
		"no Med": func(x *api.Turn) { x.Attrs.HasMed, x.Attrs.Med = false, 1 }, "Pref": func(x *api.Turn) { x.Attrs.HasPref = true }, "Pref 1": func(x *api.Turn) { x.Attrs.Pref = 1 },
		"Path": func(x *api.Turn) { x.Attrs.Path = []api.Leg{{As: []uint32{1}}} }, "Tags": func(x *api.Turn) { x.Attrs.Tags = []uint32{1} },
		"Bytes": func(x *api.Turn) { x.Bytes = make([]byte, 1001) }, "more Bytes": func(x *api.Turn) { x.Bytes = make([]byte, 65536+5) },
	}
	for k := api.TurnKey; k <= api.TurnForge; k++ {
		for name, change := range changes {
			x := one(k)
			change(&x)
			b, e := script.Raw(one(1), x)
			if script.Check(x) != api.ErrTurn || b != nil || e != api.ErrTurn {
				t.Error(k, name, b, e)
			}
		}
	}
	// What a kind does not name is zero.
	parts := map[string]func(x *api.Turn){
		"Who": func(x *api.Turn) { x.Who = 1 }, "N": func(x *api.Turn) { x.N = 1 }, "Peer": func(x *api.Turn) { x.Mkt.Peer = 1 }, "Send": func(x *api.Turn) { x.Mkt.Send = 1 }, "Recv": func(x *api.Turn) { x.Mkt.Recv = 1 },
		"Alg": func(x *api.Turn) { x.Mkt.Alg = 1 }, "Master": func(x *api.Turn) { x.Mkt.Master = "m" }, "Prefix": func(x *api.Turn) { x.Prefix = ten }, "Next": func(x *api.Turn) { x.Attrs.Next = 1 }, "Bytes": func(x *api.Turn) { x.Bytes = []byte{0} },
	}
	has := func(k api.TurnKind, name string) bool {
		switch name {
		case "Who":
			return k <= api.TurnTick
		case "N":
			return k == api.TurnWant || k == api.TurnLeave || k >= api.TurnDeliver && k <= api.TurnDrop
		case "Peer", "Send":
			return k <= api.TurnPrefer
		case "Recv", "Alg", "Master":
			return k == api.TurnKey
		case "Prefix":
			return k == api.TurnOwn || k == api.TurnLost
		case "Next":
			return k == api.TurnOwn
		}
		return k == api.TurnForge
	}
	for k := api.TurnKey; k <= api.TurnForge; k++ {
		for name, change := range parts {
			x := one(k)
			change(&x)
			if (script.Check(x) == api.OK) != has(k, name) {
				t.Error(k, name, script.Check(x))
			}
		}
	}
	for _, k := range []api.TurnKind{0, 13, -1, 257} {
		if script.Check(api.Turn{Kind: k}) != api.ErrTurn {
			t.Error(k)
		}
	}
	at := []api.Turn{
		{Kind: api.TurnForge}, {Kind: api.TurnForge, Bytes: make([]byte, 1000)}, {Kind: api.TurnKey, Mkt: api.Mkt{Master: strings.Repeat("\xff", 255)}}, {Kind: api.TurnLost},
		{Kind: api.TurnLost, Prefix: api.Prefix{Addr: 1<<32 - 1, Len: 32}}, {Kind: api.TurnOwn, Attrs: api.Attrs{HasMed: true}}, {Kind: api.TurnOwn, Attrs: api.Attrs{Path: []api.Leg{}, Tags: []uint32{}}},
	}
	for i, x := range at {
		b, e := script.Raw(x)
		if back := script.Turns(b); e != api.OK || len(back) != 1 || !same(back[0], x) {
			t.Error(i, e)
		}
	}
	if b, e := script.Raw(api.Turn{Kind: api.TurnDrop, N: 256}); b != nil || e != api.ErrTurn {
		t.Error(b, e)
	}
}

// P31.1: the turns of any bytes.
func TestTurns(t *testing.T) {
	for i, r := range []struct {
		b    []byte
		want []api.Turn
	}{
		{nil, nil},
		{[]byte{7, 5, 8, 2, 7}, []api.Turn{{Kind: api.TurnTick, Who: 1}, {Kind: api.TurnDeliver, N: 2}, {Kind: api.TurnTick}}},
		{[]byte{12}, []api.Turn{{Kind: api.TurnKey}}},
		{[]byte{252, 255, 3, 4, 5, 250, 200, 'x', 'y'}, []api.Turn{{Kind: api.TurnKey, Who: 3, Mkt: api.Mkt{Peer: 3, Send: 4, Recv: 5, Alg: 1, Master: "xy"}}}},
		{[]byte{6, 0, 41, 0xff, 0xff, 0xff, 0xff}, []api.Turn{{Kind: api.TurnLost, Prefix: api.Prefix{Addr: 0xff000000, Len: 8}}}},
		{[]byte{6, 0, 33, 0xff}, []api.Turn{{Kind: api.TurnLost}}},
		{[]byte{6, 0, 32, 0xff, 1}, []api.Turn{{Kind: api.TurnLost, Prefix: api.Prefix{Addr: 0xff010000, Len: 32}}}},
		{[]byte{5, 1, 0, 0, 0, 0, 0, 5, 9, 3, 7}, []api.Turn{{Kind: api.TurnOwn, Who: 1, Attrs: api.Attrs{Origin: 2, Next: 9, HasMed: true, Med: 7}}}},
		{[]byte{5, 1, 0, 0, 0, 0, 0, 3, 9, 2, 7, 1}, []api.Turn{{Kind: api.TurnOwn, Who: 1, Attrs: api.Attrs{Next: 9}}, {Kind: api.TurnTick, Who: 1}}},
		{[]byte{11, 235, 3, 9, 8}, []api.Turn{{Kind: api.TurnForge, Bytes: []byte{9, 8}}}}, // 1003 modulo 1001 is 2
		{[]byte{11, 233, 3, 8, 1}, []api.Turn{{Kind: api.TurnForge}, {Kind: api.TurnDeliver, N: 1}}},
		{[]byte{11, 9, 0, 1, 2}, []api.Turn{{Kind: api.TurnForge, Bytes: []byte{1, 2}}}},
		{[]byte{11, 9}, []api.Turn{{Kind: api.TurnForge}}},
	} {
		if got := script.Turns(r.b); !slices.EqualFunc(got, r.want, same) {
			t.Error(i, got)
		}
	}
	b := []byte{11, 2, 0, 1, 2}
	l := script.Turns(b)
	b[3] = 9
	if l[0].Bytes[0] != 1 {
		t.Error("an answer shares memory with what was handed in")
	}
}

// P31.2: plain routers.
func TestPlain(t *testing.T) {
	for i, r := range []struct {
		n     int
		hold  uint16
		retry int
		e     api.Errno
	}{
		{1, 0, 1, api.OK}, {4, 65535, 65535, api.OK}, {0, 9, 3, api.ErrArg}, {5, 9, 3, api.ErrArg}, {-1, 9, 3, api.ErrArg},
		{2, 1, 3, api.ErrArg}, {2, 2, 3, api.ErrArg}, {2, 3, 3, api.OK}, {2, 9, 0, api.ErrArg}, {2, 9, -5, api.ErrArg}, {2, 9, 65536, api.ErrArg},
	} {
		l, e := script.Plain(r.n, r.hold, r.retry, false)
		if e != r.e || e != api.OK && l != nil || e == api.OK && len(l) != r.n {
			t.Error(i, l, e)
		}
	}
	for _, inner := range []bool{false, true} {
		l, _ := script.Plain(3, 9, 5, inner)
		for i, r := range l {
			as := func(n uint32) uint32 {
				if inner {
					return 1
				}
				return n
			}
			name := uint32(i + 1)
			if r.Self != (api.Self{As: as(name), Id: name, Addr: name}) || r.Hold != 9 || r.ISN != uint32(1000*i) || len(r.Neighbors) != 2 {
				t.Error(r)
			}
			for j, n := range r.Neighbors {
				other := uint32(j + 1)
				if j >= i {
					other++
				}
				if n.Addr != other || n.Id != other || n.As != as(other) || n.Retry != 5 || n.Passive || !n.In.Else || !n.Out.Else || len(n.In.Rules)+len(n.Out.Rules) != 0 {
					t.Error(n)
				}
			}
		}
		if _, e := world.New(l...); e != api.OK {
			t.Error(e)
		}
	}
}

func plain(t *testing.T, n int) []api.Router {
	t.Helper()
	l, e := script.Plain(n, 9, 3, false)
	if e != api.OK {
		t.Fatal(e)
	}
	return l
}

// up is the turns by which two routers come up, with some others.
func up() []api.Turn {
	var l []api.Turn
	for who := range 2 {
		l = append(l, api.Turn{Kind: api.TurnKey, Who: who, Mkt: api.Mkt{Peer: uint32(2 - who), Send: 1, Recv: 1, Alg: api.AlgHmac, Master: "k"}}, api.Turn{Kind: api.TurnWant, Who: who})
	}
	l = append(l, api.Turn{Kind: api.TurnOwn, Prefix: ten, Attrs: api.Attrs{Next: 9}}, api.Turn{Kind: api.TurnTick, Who: 9}, api.Turn{Kind: api.TurnTick, Who: 3}, api.Turn{})
	for range 20 {
		l = append(l, api.Turn{Kind: api.TurnDeliver})
	}
	return append(l, api.Turn{Kind: api.TurnTick}, api.Turn{Kind: api.TurnTick}, api.Turn{Kind: api.TurnTick})
}

// P31.2: lives.
func TestPlay(t *testing.T) {
	x, e := script.Play(plain(t, 2), up()...)
	if e != api.OK || len(x.Errs) != len(up()) || len(x.Routers) != 2 {
		t.Fatal(x, e)
	}
	w, _ := world.New(plain(t, 2)...)
	for i, turn := range up() {
		want := api.ErrTurn
		if script.Check(turn) == api.OK {
			want = w.Turn(turn)
		}
		if x.Errs[i] != want {
			t.Error(i, x.Errs[i], want)
		}
	}
	if x.Errs[5] != api.ErrTurn || x.Errs[6] != api.ErrRange || x.Errs[7] != api.ErrTurn || x.Bag != len(w.Bag()) || x.Bag == 0 {
		t.Error(x.Errs, x.Bag)
	}
	for n, s := range x.Routers {
		sp, _ := w.Speaker(n)
		if s.State.Lines[0].Fsm.At != api.FsmEstablished || len(s.Best) != 1 || s.Best[0].Route.Prefix != ten || !slices.Equal(s.Keys, sp.Keys().All()) || s.State.Routes != 1 {
			t.Error(n, s)
		}
	}
	if !script.Same(x, x) {
		t.Error("the same")
	}
	for i, l := range [][]api.Router{nil, {{}}, append(plain(t, 2), plain(t, 1)...), append(plain(t, 4), api.Router{Self: api.Self{As: 9, Id: 9, Addr: 9}})} {
		if x, e := script.Play(l, up()...); e != api.ErrArg || !script.Same(x, api.Lived{}) {
			t.Error(i, x, e)
		}
	}
	if x, e := script.Play(plain(t, 1)); e != api.OK || len(x.Errs) != 0 || len(x.Routers) != 1 || x.Bag != 0 {
		t.Error(x, e)
	}
}

// P31.2: lives are held against each other part by part.
func TestSame(t *testing.T) {
	play := func() api.Lived {
		x, e := script.Play(plain(t, 2), up()...)
		if e != api.OK {
			t.Fatal(e)
		}
		x.Routers[1].State.Lines[0].Fsm.Session.Caps = []uint8{3}
		return x
	}
	line := func(x *api.Lived) *api.LineState { return &x.Routers[1].State.Lines[0] }
	best := func(x *api.Lived) *api.Best { return &x.Routers[1].Best[0] }
	for i, change := range []func(x *api.Lived){
		func(x *api.Lived) { x.Errs[3]++ }, func(x *api.Lived) { x.Errs = x.Errs[1:] }, func(x *api.Lived) { x.Bag++ }, func(x *api.Lived) { x.Routers = x.Routers[:1] },
		func(x *api.Lived) { x.Routers[0].State.Bad++ }, func(x *api.Lived) { x.Routers[0].State.Strange++ }, func(x *api.Lived) { x.Routers[0].State.Routes++ }, func(x *api.Lived) { x.Routers[0].State.Lines = nil },
		func(x *api.Lived) { line(x).Wanted = false }, func(x *api.Lived) { line(x).Has = false }, func(x *api.Lived) { line(x).Waits++ }, func(x *api.Lived) { line(x).Dropped[2]++ },
		func(x *api.Lived) { line(x).Stream.Took++ }, func(x *api.Lived) { line(x).Guard.Out++ }, func(x *api.Lived) { line(x).Fsm.At-- }, func(x *api.Lived) { line(x).Fsm.Keep++ }, func(x *api.Lived) { line(x).Fsm.Hold++ }, func(x *api.Lived) { line(x).Fsm.Retry++ },
		func(x *api.Lived) { line(x).Fsm.Session.Hold++ }, func(x *api.Lived) { line(x).Fsm.Session.Inner = true }, func(x *api.Lived) { line(x).Fsm.Session.Caps[0]++ },
		func(x *api.Lived) { best(x).Why++ }, func(x *api.Lived) { best(x).Many++ }, func(x *api.Lived) { best(x).Route.Peer.Id++ }, func(x *api.Lived) { best(x).Route.Prefix.Len++ }, func(x *api.Lived) { best(x).Route.Attrs.Path[0].As[0]++ },
		func(x *api.Lived) { x.Routers[1].Keys[0].Recv++ }, func(x *api.Lived) { x.Routers[1].Keys = nil }, func(x *api.Lived) { x.Routers[1].Best = nil },
	} {
		a, b := play(), play()
		if !script.Same(a, b) {
			t.Fatal("the same")
		}
		change(&b)
		if script.Same(a, b) || script.Same(b, a) {
			t.Error(i)
		}
	}
	if !script.Same(api.Lived{}, api.Lived{Errs: []api.Errno{}, Routers: []api.Stood{}}) {
		t.Error("nil and empty")
	}
}

// P31.3: what a life keeps.
func TestKeeps(t *testing.T) {
	routers := plain(t, 2)
	puts := plain(t, 2)
	puts[0].Neighbors[0].In.Rules = []api.Rule{{Most: 32}, {Most: 32, Times: 1}}
	one, bare := plain(t, 2), plain(t, 2)
	one[0].Neighbors[0].In.Rules = []api.Rule{{Most: 32, Times: 1}}
	bare[0].Neighbors[0].In.Rules = []api.Rule{{Most: 32}}
	bare[0].Neighbors[0].Out.Rules = []api.Rule{{Most: 32, Times: 1}}
	told := func(of api.Peer, as ...uint32) api.Best {
		return api.Best{Route: api.Route{Peer: of, Attrs: api.Attrs{Path: []api.Leg{{As: as}}}}}
	}
	two := api.Peer{As: 2, Id: 2, Addr: 2}
	stood := func(lines, best, keys int) api.Stood {
		return api.Stood{State: api.SpeakerState{Lines: make([]api.LineState, lines)}, Best: make([]api.Best, best), Keys: make([]api.Mkt, keys)}
	}
	with := func(l ...api.Best) api.Lived { return api.Lived{Routers: []api.Stood{{Best: l}}} }
	for i, r := range []struct {
		l    []api.Router
		x    api.Lived
		want api.Kept
	}{
		{nil, api.Lived{}, api.Kept{Bounds: true, Clean: true}},
		{routers, api.Lived{Bag: 256}, api.Kept{Bounds: true, Clean: true}},
		{routers, api.Lived{Bag: 257}, api.Kept{Clean: true}},
		{routers, api.Lived{Routers: []api.Stood{stood(0, 64, 16), stood(2, 192, 0)}}, api.Kept{Bounds: true, Clean: true}},
		{routers, api.Lived{Routers: []api.Stood{stood(0, 65, 0)}}, api.Kept{Clean: true}},
		{routers, api.Lived{Routers: []api.Stood{{}, stood(2, 193, 0)}}, api.Kept{Clean: true}},
		{routers, api.Lived{Routers: []api.Stood{stood(4, 0, 17)}}, api.Kept{Clean: true}},
		{routers, with(told(two, 2, 3)), api.Kept{Bounds: true, Clean: true}},
		{routers, with(told(two, 2, 1)), api.Kept{Bounds: true}},
		{routers, with(told(api.Peer{}, 1)), api.Kept{Bounds: true, Clean: true}},
		{routers, with(told(api.Peer{}, 1), told(two, 1)), api.Kept{Bounds: true}},
		{puts, with(told(two, 2, 1)), api.Kept{Bounds: true, Clean: true}},
		{one, with(told(two, 2, 1)), api.Kept{Bounds: true, Clean: true}},
		{bare, with(told(two, 2, 1)), api.Kept{Bounds: true}},
		{nil, with(told(two, 2, 1)), api.Kept{Bounds: true, Clean: true}},
		{routers[:1], api.Lived{Routers: []api.Stood{{}, {Best: []api.Best{told(two, 2)}}}}, api.Kept{Bounds: true, Clean: true}},
		{routers, api.Lived{Routers: []api.Stood{{}, {Best: []api.Best{told(two, 2)}}}}, api.Kept{Bounds: true}},
	} {
		if got := script.Keeps(r.l, r.x); got != r.want {
			t.Error(i, got)
		}
	}
}

// P31.4, P31.5: bytes of the same turns; each life keeps all.
func TestLives(t *testing.T) {
	x := uint32(77)
	pick := func(n int) int {
		x = x*1664525 + 1013904223
		return int(x >> 12 % uint32(n))
	}
	for i := range 150 {
		n := 1 + i%4
		b := []byte{}
		for who := range n { // keys, and wishes, by which there is something to live
			for m := range n - 1 {
				peer := m + 1
				if m >= who {
					peer++
				}
				b = append(b, 0, byte(who), byte(peer), 1, 1, byte(1+i%2), 1, 'k', 3, byte(who), byte(m))
			}
		}
		for range 300 {
			switch pick(4) {
			case 0:
				b = append(b, 7, byte(pick(n)))
			case 1:
				b = append(b, byte(pick(12)), byte(pick(256)), byte(pick(256)))
			default:
				b = append(b, 8, byte(pick(3)))
			}
		}
		turns := script.Turns(b)
		raw, e := script.Raw(turns...)
		if e != api.OK || !slices.EqualFunc(script.Turns(raw), turns, same) {
			t.Fatal(i, e)
		}
		l, _ := script.Plain(n, uint16(3*(i%5)), 1+i%7, i%3 == 0)
		if i%5 == 1 {
			for j := range l {
				for m := range l[j].Neighbors {
					l[j].Neighbors[m].In.Rules = []api.Rule{{Most: 32, HasPref: true, Pref: uint32(j)}}
					l[j].Neighbors[m].Out.Rules = []api.Rule{{Most: 16, Times: 3}, {Most: 32, Deny: true}}
					l[j].Neighbors[m].Passive = pick(2) == 0
				}
			}
		}
		lived, e := script.Play(l, turns...)
		if e != api.OK || script.Keeps(l, lived) != (api.Kept{Bounds: true, Clean: true}) {
			t.Fatal(i, e, script.Keeps(l, lived))
		}
		if again, _ := script.Play(l, turns...); !script.Same(again, lived) {
			t.Fatal(i, "another life of the same turns")
		}
	}
}

func FuzzTurns(f *testing.F) {
	b, _ := script.Raw(up()[:5]...)
	f.Add(b)
	routers, _ := script.Plain(3, 9, 3, false)
	f.Fuzz(func(t *testing.T, b []byte) {
		turns := script.Turns(b)
		raw, e := script.Raw(turns...)
		if e != api.OK || !slices.EqualFunc(script.Turns(raw), turns, same) {
			t.Fatal(e)
		}
		x, e := script.Play(routers, turns...)
		if e != api.OK || script.Keeps(routers, x) != (api.Kept{Bounds: true, Clean: true}) {
			t.Fatal(e)
		}
	})
}
