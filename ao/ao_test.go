package ao_test

import (
	"bytes"
	"testing"

	"pursuivant/ao"
	"pursuivant/api"
	"pursuivant/kdf"
	"pursuivant/keys"
	"pursuivant/mac"
	"pursuivant/seg"
)

var conn = api.Conn{Local: 1, Peer: 2, LocalPort: 179, PeerPort: 180, LocalISN: 1000}

var turned = api.Conn{Local: 2, Peer: 1, LocalPort: 180, PeerPort: 179, LocalISN: 5000}

var list = []api.Mkt{
	{Send: 10, Recv: 20, Alg: api.AlgHmac, Master: "elder"},
	{Send: 11, Recv: 21, Alg: api.AlgCmac, Master: "younger"},
	{Send: 20, Recv: 10, Alg: api.AlgCmac, Master: "third"},
}

// both is the same master keys on both sides.
func both(t *testing.T) (*keys.Keys, *keys.Keys) {
	a, b := keys.New(), keys.New()
	for _, m := range list {
		m.Peer = 2
		e := a.Add(m)
		m.Peer, m.Send, m.Recv = 1, m.Recv, m.Send
		if f := b.Add(m); e != api.OK || f != api.OK {
			t.Fatal(e, f)
		}
	}
	return a, b
}

func guards(t *testing.T, ka, kb *keys.Keys) (*ao.Guard, *ao.Guard) {
	a, e := ao.New(ka, conn)
	b, f := ao.New(kb, turned)
	if e != api.OK || f != api.OK {
		t.Fatal(e, f)
	}
	return a, b
}

func pair(t *testing.T) (*keys.Keys, *keys.Keys, *ao.Guard, *ao.Guard) {
	ka, kb := both(t)
	a, b := guards(t, ka, kb)
	return ka, kb, a, b
}

func sent(t *testing.T, g *ao.Guard, k *keys.Keys, s api.Seg) api.Seg {
	t.Helper()
	out, e := g.Out(k, s)
	if e != api.OK {
		t.Fatal(s, e)
	}
	return out
}

// P12.1: who may be made, and how it stands then.
func TestNew(t *testing.T) {
	ka, _, a, _ := pair(t)
	if s := a.State(); s != (api.Guard{Send: 10, LocalISN: 1000, Out: 1000}) {
		t.Error(s)
	}
	ka.Prefer(2, 11)
	if g, e := ao.New(ka, conn); e != api.OK || g.State().Send != 11 {
		t.Error(e)
	}
	for _, none := range []*keys.Keys{nil, {}} {
		if g, e := ao.New(none, conn); g != nil || e != api.ErrNil {
			t.Error(g, e)
		}
	}
	other := conn
	other.Peer = 3
	if g, e := ao.New(ka, other); g != nil || e != api.ErrNoKey {
		t.Error(g, e)
	}
}

// P12.1: the segment as it goes, by the numbers that it goes by.
func TestOut(t *testing.T) {
	for i, r := range []struct {
		flags      api.Flags
		learned    bool
		seq        uint32
		mine, peer uint32
	}{
		{api.Syn, false, 1000, 1000, 0},
		{api.Syn, true, 1000, 1000, 0},
		{api.Syn | api.Fin, true, 1000, 1000, 0},
		{api.Syn | api.Ack, true, 1000, 1000, 7777},
		{api.Syn | api.Ack, false, 1000, 1000, 0},
		{api.Ack, true, 1004, 1000, 7777},
		{api.Ack, false, 1004, 1000, 0},
		{0, true, 3, 1000, 7777},
		{api.Rst, true, 1<<32 - 1, 1000, 7777},
		{api.Ack, true, 1005, 1000, 0xa1b2c3d4},
	} {
		for _, m := range list {
			ka, _, g, _ := pair(t)
			ka.Prefer(2, m.Send)
			g, _ = ao.New(ka, conn)
			ka.Prefer(2, list[1].Send) // by m it sends all the same, the other one is wanted
			if r.learned && r.peer != 0 {
				g.Learn(r.peer)
			} else if r.learned {
				g.Learn(7777)
			}
			data := []byte{1, 2, 3}
			s := sent(t, g, ka, api.Seg{From: 99, To: 98, FromPort: 97, ToPort: 96, Ttl: 3, Seq: r.seq, Ack: 55, Window: 66, Flags: r.flags, Has: true, Auth: api.Auth{Key: 5}, Data: data})
			want := api.Seg{From: 1, To: 2, FromPort: 179, ToPort: 180, Ttl: 255, Seq: r.seq, Ack: 55, Window: 66, Flags: r.flags, Has: true, Auth: api.Auth{Key: m.Send, Next: list[1].Recv}, Data: data}
			key, _ := kdf.Key(m.Alg, []byte(m.Master), kdf.Context(api.Link{Own: 1, Other: 2, OwnPort: 179, OtherPort: 180, OwnFirst: r.mine, OtherFirst: r.peer}))
			want.Auth.Tag, _ = mac.Tag(m.Alg, key, seg.Covered(want, 0))
			if !seg.Same(s, want) {
				t.Error(i, s, want)
			}
			s.Data[0]++
			if data[0] != 1 {
				t.Error("an answer shares memory with what was handed in")
			}
			if got := g.State().Out; got != max(1000, int64(r.seq)) && r.seq != 1<<32-1 {
				t.Error(i, got)
			}
		}
	}
}

// P12.1: the extension of long numbers, past 2^32.
func TestExtension(t *testing.T) {
	ka, kb, a, b := pair(t)
	a.Learn(5000)
	b.Learn(1000)
	seq := uint32(1000)
	for range 10 {
		seq += 1 << 30
		s := sent(t, a, ka, api.Seg{Flags: api.Ack, Seq: seq})
		if d, e := b.In(kb, s); d != api.DropNone || e != api.OK {
			t.Fatal(seq, d, e)
		}
	}
	want := int64(1000 + 10<<30)
	if a.State().Out != want || b.State().In != want {
		t.Error(a.State(), b.State())
	}
	// An elder one with the same Seq, but for the extension, has another tag.
	c, _ := ao.New(ka, conn)
	c.Learn(5000)
	if d, _ := b.In(kb, sent(t, c, ka, api.Seg{Flags: api.Ack, Seq: uint32(want)})); d != api.DropTag {
		t.Error(d)
	}
}

// P12.1: what Out refuses.
func TestOutRefuse(t *testing.T) {
	ka, _, a, _ := pair(t)
	before := a.Copy()
	for i, r := range []struct {
		k *keys.Keys
		s api.Seg
		e api.Errno
	}{
		{nil, api.Seg{Flags: 16}, api.ErrNil},
		{&keys.Keys{}, api.Seg{}, api.ErrNil},
		{ka, api.Seg{Flags: 16}, api.ErrArg},
		{ka, api.Seg{Flags: -1}, api.ErrArg},
		{ka, api.Seg{Data: make([]byte, 65)}, api.ErrArg},
		{ka, api.Seg{Flags: api.Syn, Seq: 999}, api.ErrArg},
		{ka, api.Seg{Flags: api.Syn | api.Ack, Seq: 1001}, api.ErrArg},
		{keys.New(), api.Seg{Flags: api.Syn, Seq: 999}, api.ErrArg},
		{keys.New(), api.Seg{Flags: api.Syn, Seq: 1000}, api.ErrNoKey},
	} {
		s, e := a.Out(r.k, r.s)
		if e != r.e || !seg.Same(s, api.Seg{}) || !ao.Same(a, before) {
			t.Error(i, s, e)
		}
	}
	// The key by which it still sends was removed.
	ka.Prefer(2, 11)
	ka.Remove(2, 10)
	if s, e := a.Out(ka, api.Seg{}); e != api.ErrNoKey || !seg.Same(s, api.Seg{}) || !ao.Same(a, before) {
		t.Error(s, e)
	}
}

// P12.1, P12.3: why segments are dropped, the first reason that is so; one number alone changes.
func TestInDrops(t *testing.T) {
	ka, kb, a, b := pair(t)
	b.Learn(1000)
	right := sent(t, a, ka, api.Seg{Flags: api.Syn, Seq: 1000, Data: []byte("ab")})
	for i, r := range []struct {
		change func(s *api.Seg)
		drop   api.Drop
	}{
		{func(s *api.Seg) { s.From = 3; s.Ttl = 0 }, api.DropEnds},
		{func(s *api.Seg) { s.To = 1 }, api.DropEnds},
		{func(s *api.Seg) { s.FromPort++ }, api.DropEnds},
		{func(s *api.Seg) { s.ToPort++ }, api.DropEnds},
		{func(s *api.Seg) { s.Ttl = 253; s.Has = false; s.Auth = api.Auth{} }, api.DropTtl},
		{func(s *api.Seg) { s.Ttl = 0; s.Auth.Key = 99 }, api.DropTtl},
		{func(s *api.Seg) { s.Has = false; s.Auth = api.Auth{} }, api.DropBare},
		{func(s *api.Seg) { s.Auth.Key = 99; s.Auth.Tag[0]++ }, api.DropKey},
		{func(s *api.Seg) { s.Auth.Key = 11 }, api.DropTag},
		{func(s *api.Seg) { s.Auth.Tag[11] ^= 1 }, api.DropTag},
		{func(s *api.Seg) { s.Auth.Next++ }, api.DropTag},
		{func(s *api.Seg) { s.Seq++ }, api.DropTag},
		{func(s *api.Seg) { s.Ack++ }, api.DropTag},
		{func(s *api.Seg) { s.Window++ }, api.DropTag},
		{func(s *api.Seg) { s.Flags |= api.Ack }, api.DropTag},
		{func(s *api.Seg) { s.Flags = api.Rst }, api.DropTag},
		{func(s *api.Seg) { s.Data[1]++ }, api.DropTag},
		{func(s *api.Seg) { s.Data = nil }, api.DropTag},
		{func(s *api.Seg) {}, api.DropNone},
		{func(s *api.Seg) { s.Ttl = 254 }, api.DropNone},
	} {
		s := right
		s.Data = bytes.Clone(s.Data)
		r.change(&s)
		want := b.State()
		want.Drops[r.drop]++
		if d, e := b.In(kb, s); d != r.drop || e != api.OK || b.State() != want {
			t.Error(i, d, e, b.State())
		}
	}
	before := b.Copy()
	for i, s := range []api.Seg{{Flags: 16}, {Data: make([]byte, 65)}, {Auth: api.Auth{Key: 1}}} {
		if d, e := b.In(kb, s); d != api.DropNone || e != api.ErrArg || !ao.Same(b, before) {
			t.Error(i, d, e)
		}
	}
	for _, none := range []*keys.Keys{nil, {}} {
		if d, e := b.In(none, right); d != api.DropNone || e != api.ErrNil || !ao.Same(b, before) {
			t.Error(d, e)
		}
	}
}

// P12.1: by which key it sends: as the peer wants it, but what comes again, or late, turns no key back.
func TestTurn(t *testing.T) {
	ka, kb, a, b := pair(t)
	a.Learn(5000)
	b.Learn(1000)
	elder := sent(t, b, kb, api.Seg{Flags: api.Ack, Seq: 5001})
	syn := sent(t, b, kb, api.Seg{Flags: api.Syn | api.Ack, Seq: 5000})
	kb.Prefer(1, 21)
	late := sent(t, b, kb, api.Seg{Flags: api.Ack, Seq: 5001}) // says the younger one, at the Seq of the elder one
	newer := sent(t, b, kb, api.Seg{Flags: api.Ack, Seq: 5002})
	strange := sent(t, b, kb, api.Seg{Flags: api.Ack, Seq: 5003})
	in := func(s api.Seg, send uint8, mark int64) {
		t.Helper()
		if d, e := a.In(ka, s); d != api.DropNone || e != api.OK {
			t.Fatal(d, e)
		}
		if g := a.State(); g.Send != send || g.In != mark {
			t.Error(g)
		}
	}
	in(syn, 10, 5000)
	in(elder, 10, 5001)
	in(late, 10, 5001)
	in(newer, 11, 5002)
	in(elder, 11, 5002)
	in(newer, 11, 5002)
	// The peer's Next is no Send of ours: it sends on by what it has.
	for _, m := range []uint8{10, 20} {
		ka.Prefer(2, m)
	}
	ka.Remove(2, 11)
	in(strange, 11, 5003)
	if a.State().Drops != [6]int{7} {
		t.Error(a.State().Drops)
	}
}

// P12.2: copies, what is the same, none.
func TestStateCopySame(t *testing.T) {
	ka, kb, a, b := pair(t)
	c := a.Copy()
	if !ao.Same(a, c) {
		t.Error("a copy")
	}
	c.Learn(4)
	if ao.Same(a, c) || a.State().Learned || c.State() != (api.Guard{Send: 10, Learned: true, LocalISN: 1000, PeerISN: 4, Out: 1000, In: 4}) {
		t.Error(a.State(), c.State())
	}
	c = a.Copy()
	s := sent(t, c, ka, api.Seg{Flags: api.Ack, Seq: 1200})
	if ao.Same(a, c) || a.State().Out != 1000 {
		t.Error("a copy goes on apart")
	}
	b.Learn(1000)
	d := b.Copy()
	d.In(kb, s)
	if ao.Same(b, d) || b.State().In != 1000 {
		t.Error("a copy goes on apart")
	}
	other := conn
	other.PeerPort++
	o, _ := ao.New(ka, other)
	if ao.Same(a, o) {
		t.Error("other ends")
	}
	refused, _ := ao.New(keys.New(), conn)
	for _, none := range []*ao.Guard{nil, {}, refused} {
		s, e := none.Out(ka, api.Seg{})
		d, f := none.In(ka, api.Seg{})
		if !seg.Same(s, api.Seg{}) || d != 0 || e != api.ErrNil || f != api.ErrNil || none.Learn(1) != api.ErrNil || none.State() != (api.Guard{}) || none.Copy() != nil {
			t.Error("none answers")
		}
		if ao.Same(none, a) || ao.Same(a, none) || !ao.Same(none, nil) || !ao.Same(nil, none) {
			t.Error("a nil one is like a nil one alone")
		}
	}
}

// P12.4: what one sends the other one takes, whichever key is preferred on either side.
func TestTaken(t *testing.T) {
	for i := range 9 {
		ka, kb := both(t)
		ka.Prefer(2, list[i/3].Send)
		kb.Prefer(1, list[i%3].Recv)
		a, b := guards(t, ka, kb)
		take := func(g *ao.Guard, k *keys.Keys, s api.Seg) {
			t.Helper()
			if d, e := g.In(k, s); d != api.DropNone || e != api.OK {
				t.Fatal(i, d, e)
			}
		}
		take(b, kb, sent(t, a, ka, api.Seg{Flags: api.Syn, Seq: 1000}))
		b.Learn(1000)
		take(a, ka, sent(t, b, kb, api.Seg{Flags: api.Syn | api.Ack, Seq: 5000, Ack: 1001}))
		a.Learn(5000)
		for n := range uint32(50) {
			ka.Prefer(2, list[n/7%3].Send)
			kb.Prefer(1, list[n/5%3].Recv)
			x := sent(t, a, ka, api.Seg{Flags: api.Ack, Seq: 1001 + 90*n*n, Data: []byte{1}})
			y := sent(t, b, kb, api.Seg{Flags: api.Ack, Seq: 5001 + 3000*n*n})
			if n%3 == 0 {
				x, y = y, x
				take(a, ka, x)
				take(b, kb, y)
				continue
			}
			take(b, kb, x)
			take(a, ka, y)
		}
	}
}
