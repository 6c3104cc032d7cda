package ribout_test

import (
	"maps"
	"slices"
	"testing"

	"pursuivant/api"
	"pursuivant/attrs"
	"pursuivant/ribin"
	"pursuivant/ribout"
	"pursuivant/update"
)

var (
	self  = api.Self{As: 1, Id: 10, Addr: 9}
	outer = api.Peer{As: 2, Id: 20, Addr: 200}
	inner = api.Peer{As: 1, Id: 30, Addr: 300, Inner: true}
	third = api.Peer{As: 3, Id: 40, Addr: 400}
	pass  = api.Policy{Else: true}
	ten   = api.Prefix{Addr: 0x0a000000, Len: 8}
)

func rib(t *testing.T, to api.Peer, p api.Policy) *ribout.Out {
	t.Helper()
	o, e := ribout.New(self, to, p)
	if e != api.OK {
		t.Fatal(e)
	}
	return o
}

func said(as ...uint32) api.Attrs {
	a := api.Attrs{Next: 77}
	if len(as) > 0 {
		a.Path = []api.Leg{{As: as}}
	}
	return a
}

func route(p api.Prefix, of api.Peer, a api.Attrs) api.Route {
	return api.Route{Prefix: p, Attrs: a, Peer: of}
}

func hosts(from, n int) []api.Prefix {
	var l []api.Prefix
	for i := range n {
		l = append(l, api.Prefix{Addr: uint32(from + i), Len: 32})
	}
	return l
}

func tells(t *testing.T, o *ribout.Out, l []api.Route, want ...api.Update) {
	t.Helper()
	got, e := o.Tell(l...)
	if e != api.OK || !slices.EqualFunc(got, want, update.Same) {
		t.Fatal(got, e, "not", want)
	}
}

// P26.1: whose ribs there may be.
func TestNew(t *testing.T) {
	for i, r := range []struct {
		self api.Self
		to   api.Peer
		p    api.Policy
		e    api.Errno
	}{
		{self, outer, pass, api.OK}, {self, inner, pass, api.OK},
		{api.Self{As: 0, Id: 1, Addr: 1}, outer, pass, api.ErrArg}, {api.Self{As: 1, Id: 0, Addr: 1}, outer, pass, api.ErrArg}, {api.Self{As: 1, Id: 1, Addr: 0}, outer, pass, api.ErrArg},
		{self, api.Peer{As: 0, Id: 1, Addr: 1}, pass, api.ErrArg}, {self, api.Peer{As: 2, Id: 0, Addr: 1}, pass, api.ErrArg}, {self, api.Peer{As: 2, Id: 1, Addr: 0}, pass, api.ErrArg},
		{self, api.Peer{As: 2, Id: 1, Addr: 1, Inner: true}, pass, api.ErrArg}, {self, api.Peer{As: 1, Id: 1, Addr: 1}, pass, api.ErrArg},
		{self, outer, api.Policy{Rules: make([]api.Rule, 17)}, api.ErrArg}, {self, outer, api.Policy{Rules: []api.Rule{{Least: 1}}}, api.ErrArg},
	} {
		o, e := ribout.New(r.self, r.to, r.p)
		if e != r.e || (o == nil) != (e != api.OK) || o.Len() != 0 {
			t.Error(i, o, e)
		}
	}
}

// P26.2: what is to be told of a route.
func TestSays(t *testing.T) {
	full := api.Attrs{Origin: 2, Path: []api.Leg{{As: []uint32{5}}}, Next: 77, HasMed: true, Med: 3, HasPref: true, Pref: 50, Tags: []uint32{6}}
	own := full
	own.HasPref, own.Pref, own.Path = false, 0, nil
	with := func(a api.Attrs, change func(a *api.Attrs)) api.Attrs {
		a = attrs.Copy(a)
		change(&a)
		return a
	}
	ahead := func(a *api.Attrs) {
		*a, _ = attrs.Prepend(*a, 1, 1)
		a.Next = 9
	}
	bare := func(a *api.Attrs) { a.HasPref, a.Pref, a.HasMed, a.Med = false, 0, false, 0 }
	long := api.Attrs{Next: 7, Path: []api.Leg{{As: slices.Repeat([]uint32{8}, 32)}}}
	// 4 and 4 and 8 times 58 and 7 bytes, 7 of a Pref, 4 and 2 of the update: 492; one system more are 496.
	fits := api.Attrs{Next: 7, Path: slices.Repeat([]api.Leg{{As: slices.Repeat([]uint32{8}, 14)}}, 8)}
	wide := attrs.Copy(fits)
	wide.Path[7].As = append(wide.Path[7].As, 8)
	tags := api.Policy{Rules: []api.Rule{{Most: 32, HasPref: true, Pref: 4, HasMed: true, Med: 8, HasAdd: true, Add: 1, Times: 1}}}
	for i, r := range []struct {
		to   api.Peer
		p    api.Policy
		r    api.Route
		want api.Attrs
		is   bool
	}{
		{outer, pass, route(ten, third, full), with(full, func(a *api.Attrs) { bare(a); ahead(a) }), true},
		{outer, pass, route(ten, inner, full), with(full, func(a *api.Attrs) { bare(a); ahead(a) }), true},
		{outer, pass, route(ten, api.Peer{}, own), with(own, ahead), true},
		{inner, pass, route(ten, third, full), full, true},
		{inner, pass, route(ten, api.Peer{}, own), with(own, func(a *api.Attrs) { a.HasPref, a.Pref = true, 100 }), true},
		{inner, pass, route(ten, inner, full), api.Attrs{}, false},
		{inner, pass, route(ten, api.Peer{As: 1, Id: 99, Addr: 99, Inner: true}, full), api.Attrs{}, false},
		{outer, pass, route(ten, outer, full), api.Attrs{}, false},
		{outer, pass, route(ten, api.Peer{As: 2, Id: 20, Addr: 201}, full), with(full, func(a *api.Attrs) { bare(a); ahead(a) }), true},
		{outer, pass, route(ten, api.Peer{As: 2, Id: 21, Addr: 200}, full), with(full, func(a *api.Attrs) { bare(a); ahead(a) }), true},
		{outer, pass, route(ten, api.Peer{As: 3, Id: 20, Addr: 200}, full), with(full, func(a *api.Attrs) { bare(a); ahead(a) }), true},
		{outer, api.Policy{}, route(ten, third, full), api.Attrs{}, false},
		{outer, tags, route(ten, third, full), with(full, func(a *api.Attrs) { a.Pref, a.Med, a.Tags = 4, 8, []uint32{1, 6}; ahead(a); ahead(a) }), true},
		{outer, pass, route(ten, third, long), api.Attrs{}, false},
		{inner, pass, route(ten, third, long), with(long, func(a *api.Attrs) { a.HasPref, a.Pref = true, 100 }), true},
		{inner, pass, route(ten, third, fits), with(fits, func(a *api.Attrs) { a.HasPref, a.Pref = true, 100 }), true},
		{inner, pass, route(ten, third, wide), api.Attrs{}, false},
		{outer, pass, route(api.Prefix{Addr: 1, Len: 8}, third, full), api.Attrs{}, false},
		{outer, pass, route(ten, third, api.Attrs{}), api.Attrs{}, false},
	} {
		o := rib(t, r.to, r.p)
		a, is := o.Says(r.r)
		if is != r.is || !attrs.Same(a, r.want) {
			t.Error(i, a, is)
		}
		if is && len(a.Tags) > 0 && len(a.Path) > 0 {
			a.Tags[0], a.Path[0].As[0] = 99, 99
			if full.Tags[0] != 6 || full.Path[0].As[0] != 5 || own.Tags[0] != 6 {
				t.Fatal(i, "an answer shares memory with what was handed in")
			}
		}
		if o.Len() != 0 {
			t.Error(i, "Says tells")
		}
	}
}

// P26.1: the updates that say so.
func TestTell(t *testing.T) {
	o := rib(t, outer, pass)
	told := api.Attrs{Path: []api.Leg{{As: []uint32{1}}}, Next: 9}
	far := api.Attrs{Path: []api.Leg{{As: []uint32{1, 3}}}, Next: 9}
	own := func(l ...api.Prefix) []api.Route {
		var out []api.Route
		for _, p := range l {
			out = append(out, route(p, api.Peer{}, said()))
		}
		return out
	}
	tells(t, o, own(ten), api.Update{New: []api.Prefix{ten}, Attrs: told})
	tells(t, o, own(ten))
	tells(t, o, nil, api.Update{Gone: []api.Prefix{ten}})
	tells(t, o, []api.Route{route(ten, outer, said(2))})
	l := hosts(1, 5)
	// Unlike words of prefixes that alternate: each its update, in the order in which they were begun.
	mixed := append(own(l[4], l[2], l[0]), route(l[3], third, said(3)), route(l[1], third, said(3)))
	tells(t, o, mixed, api.Update{New: []api.Prefix{l[0], l[2], l[4]}, Attrs: told}, api.Update{New: []api.Prefix{l[1], l[3]}, Attrs: far})
	tells(t, o, append(own(l[1], l[2]), route(l[0], third, said(3)), route(l[3], third, said(3))),
		api.Update{Gone: []api.Prefix{l[4]}}, api.Update{New: []api.Prefix{l[0]}, Attrs: far}, api.Update{New: []api.Prefix{l[1]}, Attrs: told})
	tells(t, o, nil, api.Update{Gone: l[:4]})
	// As many in one update as it has room for: 4 and 20 bytes and 93 prefixes of 5 are 489, one more of 4 goes.
	many := hosts(1<<8, 200)
	small := api.Prefix{Addr: 1 << 16, Len: 16}
	less := api.Prefix{Addr: 2 << 16, Len: 24}
	tells(t, o, own(append(many, small, less)...),
		api.Update{New: append(slices.Clone(many[:93]), small), Attrs: told},
		api.Update{New: append(slices.Clone(many[93:186]), less), Attrs: told},
		api.Update{New: many[186:], Attrs: told})
	// What goes rises over all updates: 4 and 97 prefixes of 5 are 489.
	tells(t, o, nil, api.Update{Gone: many[:97]}, api.Update{Gone: many[97:194]}, api.Update{Gone: append(slices.Clone(many[194:]), small, less)})
}

// P26.1: refusals, another policy, a session at an end.
func TestRefusePolicyClear(t *testing.T) {
	o := rib(t, outer, pass)
	one := route(ten, third, said(3))
	o.Tell(one)
	before := o.Copy()
	for i, l := range [][]api.Route{{one, one}, {one, route(ten, outer, said(2))}, {route(api.Prefix{Len: 40}, third, said(3))}, {route(ten, third, api.Attrs{})}, {one, route(api.Prefix{Addr: 1}, third, said(3))}} {
		if got, e := o.Tell(l...); got != nil || e != api.ErrArg || !ribout.Same(o, before) {
			t.Error(i, got, e)
		}
	}
	for i, p := range []api.Policy{{Rules: make([]api.Rule, 17)}, {Rules: []api.Rule{{Least: 1}}}} {
		if e := o.Policy(p); e != api.ErrArg || !ribout.Same(o, before) {
			t.Error(i, e)
		}
	}
	rules := []api.Rule{{Cover: ten, Least: 8, Most: 8, HasAdd: true, Add: 5}}
	if e := o.Policy(api.Policy{Rules: rules}); e != api.OK || o.Len() != 1 {
		t.Error(e)
	}
	rules[0].Add = 6
	tells(t, o, []api.Route{one}, api.Update{New: []api.Prefix{ten}, Attrs: api.Attrs{Path: []api.Leg{{As: []uint32{1, 3}}}, Next: 9, Tags: []uint32{5}}})
	if o.Clear() != api.OK || o.Len() != 0 {
		t.Error("Clear")
	}
	tells(t, o, nil)
	tells(t, o, []api.Route{one}, api.Update{New: []api.Prefix{ten}, Attrs: api.Attrs{Path: []api.Leg{{As: []uint32{1, 3}}}, Next: 9, Tags: []uint32{5}}})
}

// P26.2, P26.3: what was told, copies, what is the same, none.
func TestToldCopySame(t *testing.T) {
	o := rib(t, outer, pass)
	l := hosts(3, 4)
	var routes []api.Route
	for i := range l {
		routes = append(routes, route(l[3-i], third, said(3)))
	}
	got, _ := o.Tell(routes...)
	got[0].Attrs.Path[0].As[0] = 66
	got[0].New[0].Addr = 66
	all := o.Told()
	c := o.Copy()
	if !ribout.Same(o, c) || c.Len() != 4 {
		t.Error("a copy")
	}
	o.Clear()
	if ribout.Same(o, c) || c.Len() != 4 {
		t.Error("a copy goes on apart")
	}
	for range 2 {
		var seen []api.Prefix
		for p, a := range all {
			if !attrs.Same(a, api.Attrs{Path: []api.Leg{{As: []uint32{1, 3}}}, Next: 9}) {
				t.Error(a)
			}
			a.Path[0].As[0] = 5
			seen = append(seen, p)
		}
		if !slices.Equal(seen, l) {
			t.Error(seen)
		}
		for range all {
			break
		}
	}
	d := c.Copy()
	d.Policy(api.Policy{})
	if ribout.Same(c, d) || ribout.Same(rib(t, outer, pass), rib(t, third, pass)) {
		t.Error("Same")
	}
	other, _ := ribout.New(api.Self{As: 1, Id: 10, Addr: 8}, outer, pass)
	if ribout.Same(other, rib(t, outer, pass)) {
		t.Error("another router")
	}
	refused, _ := ribout.New(api.Self{}, outer, pass)
	for _, none := range []*ribout.Out{nil, {}, refused} {
		u, e := none.Tell(route(api.Prefix{Addr: 1}, outer, api.Attrs{}))
		_, is := none.Says(route(ten, third, said(3)))
		if u != nil || e != api.ErrNil || is || none.Policy(api.Policy{Rules: make([]api.Rule, 17)}) != api.ErrNil || none.Clear() != api.ErrNil || none.Len() != 0 || none.Copy() != nil {
			t.Error("none answers")
		}
		for range none.Told() {
			t.Error("none tells")
		}
		if ribout.Same(none, o) || ribout.Same(o, none) || !ribout.Same(none, nil) || !ribout.Same(nil, none) {
			t.Error("a nil one is like a nil one alone")
		}
	}
}

// P26.4: who takes the updates has been told just what Told tells; the same once more takes none.
func TestFollows(t *testing.T) {
	x := uint32(2)
	pick := func(n int) int {
		x = x*1664525 + 1013904223
		return int(x >> 12 % uint32(n))
	}
	o := rib(t, outer, pass)
	in, e := ribin.New(2, api.Peer{As: 1, Id: 10, Addr: 9}, pass)
	if e != api.OK {
		t.Fatal(e)
	}
	policies := []api.Policy{pass, {}, {Rules: []api.Rule{{Most: 32, As: 4, Deny: true}}, Else: true}, {Rules: []api.Rule{{Most: 32, HasAdd: true, Add: 5, Times: 2}}}}
	for range 500 {
		var l []api.Route
		for _, p := range hosts(0, 60) {
			switch pick(4) {
			case 0, 1:
				l = append(l, route(p, third, said(3, uint32(3+pick(4)))))
			case 2:
				l = append(l, route(p, []api.Peer{{}, inner, outer}[pick(3)], said(2)))
			}
		}
		if pick(6) == 0 {
			o.Policy(policies[pick(4)])
		}
		updates, e := o.Tell(l...)
		if e != api.OK {
			t.Fatal(e)
		}
		for _, u := range updates {
			if update.Check(u) != api.OK {
				t.Fatal(u)
			}
			if _, e := in.Take(u); e != api.OK {
				t.Fatal(e)
			}
		}
		if got, want := maps.Collect(in.All()), maps.Collect(o.Told()); !maps.EqualFunc(got, want, attrs.Same) || len(want) != o.Len() {
			t.Fatal(got, want)
		}
		for _, r := range l {
			a, is := o.Says(r)
			b, told := maps.Collect(o.Told())[r.Prefix]
			if is != told || !attrs.Same(a, b) {
				t.Fatal(r, a, b)
			}
		}
		if updates, e := o.Tell(l...); e != api.OK || len(updates) != 0 {
			t.Fatal(updates, e)
		}
	}
}
