package rib_test

import (
	"maps"
	"slices"
	"testing"

	"pursuivant/api"
	"pursuivant/attrs"
	"pursuivant/rib"
	"pursuivant/ribout"
)

var (
	self   = api.Self{As: 1, Id: 10, Addr: 9}
	second = api.Peer{As: 2, Id: 20, Addr: 200}
	third  = api.Peer{As: 3, Id: 30, Addr: 300}
	inner  = api.Peer{As: 1, Id: 40, Addr: 400, Inner: true}
	pass   = api.Policy{Else: true}
	ten    = api.Prefix{Addr: 0x0a000000, Len: 8}
)

func side(p api.Peer) api.Side { return api.Side{Peer: p, In: pass, Out: pass} }

// ribOf is a rib with these peers, that are up.
func ribOf(t *testing.T, peers ...api.Peer) *rib.Rib {
	t.Helper()
	r, e := rib.New(self)
	if e != api.OK {
		t.Fatal(e)
	}
	for i, p := range peers {
		if at, e := r.Join(side(p)); at != i || e != api.OK || r.Up(i) != api.OK {
			t.Fatal(at, e)
		}
	}
	return r
}

func said(as ...uint32) api.Attrs {
	a := api.Attrs{Next: 77}
	if len(as) > 0 {
		a.Path = []api.Leg{{As: as}}
	}
	return a
}

func news(a api.Attrs, l ...api.Prefix) api.Update { return api.Update{New: l, Attrs: a} }

func hosts(from, n int) []api.Prefix {
	var l []api.Prefix
	for i := range n {
		l = append(l, api.Prefix{Addr: uint32(from + i), Len: 32})
	}
	return l
}

func ok(t *testing.T, l ...api.Errno) {
	t.Helper()
	for i, e := range l {
		if e != api.OK {
			t.Fatal(i, e)
		}
	}
}

func sameBest(a, b api.Best) bool {
	return a.Why == b.Why && a.Many == b.Many && a.Route.Prefix == b.Route.Prefix && a.Route.Peer == b.Route.Peer && attrs.Same(a.Route.Attrs, b.Route.Attrs)
}

// P27.1: routers, and who joins.
func TestNewJoin(t *testing.T) {
	for i, s := range []api.Self{{}, {As: 1, Id: 1}, {As: 1, Addr: 1}, {Id: 1, Addr: 1}} {
		if r, e := rib.New(s); r != nil || e != api.ErrArg {
			t.Error(i, r, e)
		}
	}
	r := ribOf(t)
	bad := api.Policy{Rules: make([]api.Rule, 17)}
	join := func(s api.Side, at int, e api.Errno) {
		t.Helper()
		if got, f := r.Join(s); got != at || f != e {
			t.Error(got, f)
		}
	}
	join(side(second), 0, api.OK)
	join(side(api.Peer{As: 9, Id: 20, Addr: 200}), 0, api.ErrArg)
	join(side(api.Peer{As: 2, Id: 21, Addr: 200}), 1, api.OK)
	join(side(api.Peer{As: 2, Id: 20, Addr: 201}), 2, api.OK)
	join(side(api.Peer{As: 1, Id: 5, Addr: 5}), 0, api.ErrArg)
	join(side(api.Peer{As: 2, Id: 5, Addr: 5, Inner: true}), 0, api.ErrArg)
	join(side(api.Peer{}), 0, api.ErrArg)
	join(api.Side{Peer: inner, In: bad, Out: pass}, 0, api.ErrArg)
	join(api.Side{Peer: inner, In: pass, Out: bad}, 0, api.ErrArg)
	join(side(inner), 3, api.OK)
	join(side(third), 0, api.ErrLong)
	join(side(second), 0, api.ErrArg)
}

// P27.1: who is up, and what is let go by that.
func TestUpDown(t *testing.T) {
	r := ribOf(t, second, third)
	ok(t, r.Down(1))
	for i, x := range []struct{ got, want api.Errno }{
		{r.Up(0), api.ErrUp}, {r.Up(2), api.ErrRange}, {r.Up(-1), api.ErrRange}, {r.Down(1), api.ErrDown}, {r.Down(2), api.ErrRange}, {r.Down(-1 << 63), api.ErrRange},
		{r.Take(1, api.Update{}), api.ErrDown}, {r.Take(2, api.Update{}), api.ErrRange}, {r.Take(2, news(said())), api.ErrArg}, {r.Take(1, news(api.Attrs{}, ten)), api.ErrArg}, {r.Take(1, api.Update{Gone: hosts(0, 98)}), api.ErrArg},
	} {
		if x.got != x.want {
			t.Error(i, x.got)
		}
	}
	for _, at := range []int{1, 2, -1} {
		want := api.ErrRange
		if at == 1 {
			want = api.ErrDown
		}
		if l, e := r.Tell(at); l != nil || e != want {
			t.Error(at, l, e)
		}
	}
	ok(t, r.Take(0, news(said(2), ten)), r.Up(1))
	if l, e := r.Tell(1); e != api.OK || len(l) != 1 {
		t.Error(l, e)
	}
	ok(t, r.Down(0))
	if r.Len() != 0 {
		t.Error(r.Len())
	}
	if l, e := r.Tell(1); e != api.OK || len(l) != 1 || !slices.Equal(l[0].Gone, []api.Prefix{ten}) {
		t.Error(l, e)
	}
	ok(t, r.Up(0))
	if r.Len() != 0 {
		t.Error("it told nothing")
	}
	// Who comes up anew was told nothing.
	ok(t, r.Own(ten, said()))
	for range 2 {
		if l, e := r.Tell(0); e != api.OK || len(l) != 1 {
			t.Error(l, e)
		}
		if l, e := r.Tell(0); e != api.OK || len(l) != 0 {
			t.Error(l, e)
		}
		ok(t, r.Down(0), r.Up(0))
	}
}

// P27.2: own routes, and their bound; routes of a peer, and theirs.
func TestOwnLostTake(t *testing.T) {
	r := ribOf(t, second)
	pref, path := said(), said(5)
	pref.HasPref = true
	med := said()
	med.HasMed, med.Med, med.Tags, med.Origin = true, 4, []uint32{3}, 2
	for i, x := range []struct {
		p api.Prefix
		a api.Attrs
		e api.Errno
	}{
		{ten, med, api.OK}, {ten, said(), api.OK}, {ten, pref, api.ErrArg}, {ten, path, api.ErrArg}, {ten, api.Attrs{}, api.ErrArg}, {api.Prefix{Addr: 1}, said(), api.ErrArg}, {api.Prefix{Len: 33}, said(), api.ErrArg},
	} {
		if e := r.Own(x.p, x.a); e != x.e {
			t.Error(i, e)
		}
	}
	for _, p := range hosts(0, 63) {
		ok(t, r.Own(p, said()))
	}
	if r.Own(hosts(63, 1)[0], said()) != api.ErrRoutes || r.Own(ten, med) != api.OK || r.Own(hosts(63, 1)[0], path) != api.ErrArg {
		t.Error("the bound of own routes")
	}
	if r.Lost(api.Prefix{}) != api.ErrNone || r.Lost(api.Prefix{Addr: 1}) != api.ErrNone || r.Lost(ten) != api.OK || r.Lost(ten) != api.ErrNone {
		t.Error("Lost")
	}
	ok(t, r.Own(hosts(63, 1)[0], said()))
	ok(t, r.Take(0, news(said(2), hosts(100, 64)...)))
	before := r.Copy()
	if r.Take(0, news(said(2), ten)) != api.ErrRoutes || !rib.Same(r, before) || r.Len() != 128 {
		t.Error("the bound of a peer's routes", r.Len())
	}
	ok(t, r.Take(0, api.Update{Gone: hosts(100, 1), New: []api.Prefix{ten}, Attrs: said(2)}))
}

// P27.2: what a peer is told.
func TestTell(t *testing.T) {
	r := ribOf(t, second, third, inner)
	ok(t, r.Own(ten, said()), r.Take(0, news(said(2, 5), hosts(1, 2)...)), r.Take(1, news(said(3), hosts(2, 2)...)))
	tell := func(at int, want map[api.Prefix]string) {
		t.Helper()
		l, e := r.Tell(at)
		got := map[api.Prefix]string{}
		for _, u := range l {
			for _, p := range u.Gone {
				got[p] = "gone"
			}
			for _, p := range u.New {
				got[p] = ""
				for _, as := range attrs.Systems(u.Attrs) {
					got[p] += string(rune('0' + as))
				}
			}
		}
		if e != api.OK || !maps.Equal(got, want) {
			t.Error(at, got, e)
		}
	}
	h := hosts(1, 3)
	tell(0, map[api.Prefix]string{ten: "1", h[1]: "13", h[2]: "13"})
	tell(1, map[api.Prefix]string{ten: "1", h[0]: "125"})
	tell(2, map[api.Prefix]string{ten: "", h[0]: "25", h[1]: "3", h[2]: "3"})
	for at := range 3 {
		tell(at, map[api.Prefix]string{})
	}
	ok(t, r.Take(1, api.Update{Gone: h[1:2]}))
	tell(0, map[api.Prefix]string{h[1]: "gone"})
	tell(1, map[api.Prefix]string{h[1]: "125"})
	tell(2, map[api.Prefix]string{h[1]: "25"})
	ok(t, r.Lost(ten), r.Down(0))
	tell(1, map[api.Prefix]string{ten: "gone", h[0]: "gone", h[1]: "gone"})
	tell(2, map[api.Prefix]string{ten: "gone", h[0]: "gone", h[1]: "gone"})
}

// P27.3: the best routes.
func TestBest(t *testing.T) {
	r := ribOf(t, second, third)
	ok(t, r.Own(ten, said()))
	ask := func(p api.Prefix, of api.Peer, why api.Why, many int) {
		t.Helper()
		b, is := r.Best(p)
		if !is || b.Route.Prefix != p || b.Route.Peer != of || b.Why != why || b.Many != many {
			t.Error(b, is)
		}
	}
	ask(ten, api.Peer{}, api.WhyOnly, 1)
	ok(t, r.Take(0, news(said(2), ten)))
	ask(ten, api.Peer{}, api.WhyOwn, 2)
	ok(t, r.Take(1, news(said(3, 4), ten)), r.Lost(ten))
	ask(ten, second, api.WhyPath, 2)
	ok(t, r.Take(0, news(said(2, 1), ten))) // it does not count
	ask(ten, third, api.WhyOnly, 1)
	wide := api.Prefix{Addr: 0x0a000000, Len: 7}
	narrow := api.Prefix{Addr: 0x0a010000, Len: 16}
	one := api.Prefix{Addr: 0x0a010203, Len: 32}
	ok(t, r.Own(narrow, said()), r.Take(0, news(said(2), one)), r.Take(1, news(said(3), wide)))
	for addr, want := range map[uint32]api.Prefix{0x0a010203: one, 0x0a010204: narrow, 0x0a020304: ten, 0x0b000000: wide} {
		b, is := r.To(addr)
		if direct, _ := r.Best(want); !is || b.Route.Prefix != want || !sameBest(b, direct) {
			t.Error(addr, b, is)
		}
	}
	for _, addr := range []uint32{0, 0x0c000000, 1<<32 - 1} {
		if b, is := r.To(addr); is || !sameBest(b, api.Best{}) {
			t.Error(addr, b, is)
		}
	}
	ok(t, r.Own(api.Prefix{}, said()))
	if b, is := r.To(0); !is || b.Route.Prefix.Len != 0 {
		t.Error(b, is)
	}
	for _, p := range []api.Prefix{{Len: 1}, {Addr: 1}, {Len: 40}} {
		if b, is := r.Best(p); is || !sameBest(b, api.Best{}) {
			t.Error(p, b, is)
		}
	}
	all := r.All()
	if r.Len() != 5 {
		t.Error(r.Len())
	}
	ok(t, r.Down(1), r.Lost(narrow))
	for range 2 {
		var got []api.Prefix
		for p, b := range all {
			got = append(got, p)
			if b.Route.Prefix != p || b.Many != 1 {
				t.Error(p, b)
			}
			if len(b.Route.Attrs.Path) > 0 {
				b.Route.Attrs.Path[0].As[0] = 99
			}
			if p == ten && b.Route.Peer != third {
				t.Error(b)
			}
		}
		if !slices.Equal(got, []api.Prefix{{}, wide, ten, narrow, one}) {
			t.Error(got)
		}
		for range all {
			break
		}
	}
	if b, _ := r.Best(one); b.Route.Attrs.Path[0].As[0] != 2 {
		t.Error("answers share memory")
	}
}

// P27.4: copies, what is the same, none.
func TestCopySame(t *testing.T) {
	r := ribOf(t, second, third)
	ok(t, r.Own(ten, said()), r.Take(0, news(said(2), hosts(1, 2)...)))
	c := r.Copy()
	if !rib.Same(r, c) {
		t.Error("a copy")
	}
	for i, change := range []func(c *rib.Rib) api.Errno{
		func(c *rib.Rib) api.Errno { return c.Own(api.Prefix{}, said()) },
		func(c *rib.Rib) api.Errno { return c.Lost(ten) },
		func(c *rib.Rib) api.Errno { return c.Down(1) },
		func(c *rib.Rib) api.Errno { return c.Take(1, news(said(7), ten)) },
		func(c *rib.Rib) api.Errno { _, e := c.Tell(1); return e },
		func(c *rib.Rib) api.Errno { _, e := c.Join(side(inner)); return e },
	} {
		c, again := r.Copy(), r.Copy()
		ok(t, change(c))
		if rib.Same(r, c) || rib.Same(c, r) || !rib.Same(r, again) {
			t.Error(i, "a copy goes on apart")
		}
	}
	// A copy knows what is still to be told.
	if l, _ := r.Copy().Tell(1); len(l) != 2 {
		t.Error(l)
	}
	other, _ := rib.New(api.Self{As: 1, Id: 10, Addr: 8})
	if rib.Same(other, ribOf(t)) || rib.Same(ribOf(t, second, third), ribOf(t, third, second)) {
		t.Error("Same")
	}
	refused, _ := rib.New(api.Self{})
	for _, none := range []*rib.Rib{nil, {}, refused} {
		_, e1 := none.Join(api.Side{})
		l, e2 := none.Tell(9)
		for i, e := range []api.Errno{e1, e2, none.Up(9), none.Down(9), none.Take(9, news(said())), none.Own(api.Prefix{Addr: 1}, said()), none.Lost(ten)} {
			if e != api.ErrNil {
				t.Error(i, e)
			}
		}
		_, a := none.Best(ten)
		_, b := none.To(5)
		if l != nil || a || b || none.Len() != 0 || none.Copy() != nil {
			t.Error("none answers")
		}
		for range none.All() {
			t.Error("none tells")
		}
		if rib.Same(none, r) || rib.Same(r, none) || !rib.Same(none, nil) || !rib.Same(nil, none) {
			t.Error("a nil one is like a nil one alone")
		}
	}
}

// P27.5: the best routes hang on what is told and own now; Tell tells just what there is to tell.
func TestFollows(t *testing.T) {
	x := uint32(11)
	pick := func(n int) int {
		x = x*1664525 + 1013904223
		return int(x >> 12 % uint32(n))
	}
	peers := []api.Peer{second, third, inner}
	r := ribOf(t, peers...)
	told := make([]map[api.Prefix]api.Attrs, 3)
	heard := make([]map[api.Prefix]api.Attrs, 3)
	for i := range told {
		told[i], heard[i] = map[api.Prefix]api.Attrs{}, map[api.Prefix]api.Attrs{}
	}
	own := map[api.Prefix]api.Attrs{}
	up := []bool{true, true, true}
	pool := hosts(0, 12)
	for range 3000 {
		at, p := pick(3), pool[pick(12)]
		switch pick(8) {
		case 0:
			if r.Own(p, said()) == api.OK {
				own[p] = said()
			}
		case 1:
			if r.Lost(p) == api.OK {
				delete(own, p)
			}
		case 2:
			if r.Down(at) == api.OK {
				up[at] = false
				clear(told[at])
				clear(heard[at])
			} else {
				ok(t, r.Up(at))
				up[at] = true
			}
		case 3:
			if r.Take(at, api.Update{Gone: []api.Prefix{p}}) == api.OK {
				delete(told[at], p)
			}
		default:
			a := said(uint32(2+at), uint32(2+pick(4)))
			if r.Take(at, news(a, p)) == api.OK {
				told[at][p] = a
			}
		}
		// Another one, to which all is told at once, in another order.
		fresh := ribOf(t, peers...)
		for i := 2; i >= 0; i-- {
			for p, a := range told[i] {
				ok(t, fresh.Take(i, news(a, p)))
			}
			if !up[i] {
				ok(t, fresh.Down(i))
			}
		}
		for p, a := range own {
			ok(t, fresh.Own(p, a))
		}
		if got, want := maps.Collect(r.All()), maps.Collect(fresh.All()); !maps.EqualFunc(got, want, sameBest) || r.Len() != len(want) {
			t.Fatal(got, want)
		}
		for i := range peers {
			if !up[i] {
				clear(heard[i])
				continue
			}
			if pick(3) > 0 {
				continue
			}
			updates, e := r.Tell(i)
			if e != api.OK {
				t.Fatal(e)
			}
			for _, u := range updates {
				for _, p := range u.Gone {
					delete(heard[i], p)
				}
				for _, p := range u.New {
					heard[i][p] = u.Attrs
				}
			}
			says, _ := ribout.New(self, peers[i], pass)
			want := map[api.Prefix]api.Attrs{}
			for p, b := range r.All() {
				if a, is := says.Says(b.Route); is {
					want[p] = a
				}
			}
			if !maps.EqualFunc(heard[i], want, attrs.Same) {
				t.Fatal(heard[i], want)
			}
		}
	}
}
