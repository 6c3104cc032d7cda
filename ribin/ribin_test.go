package ribin_test

import (
	"slices"
	"testing"

	"pursuivant/api"
	"pursuivant/attrs"
	"pursuivant/policy"
	"pursuivant/ribin"
	"pursuivant/update"
)

func prefix(t *testing.T, text string) api.Prefix {
	t.Helper()
	p, e := update.Of(text)
	if e != api.OK {
		t.Fatal(text)
	}
	return p
}

var (
	outer = api.Peer{As: 2, Id: 20, Addr: 200}
	inner = api.Peer{As: 1, Id: 30, Addr: 300, Inner: true}
	pass  = api.Policy{Else: true}
)

func rib(t *testing.T, of api.Peer, p api.Policy) *ribin.In {
	t.Helper()
	n, e := ribin.New(1, of, p)
	if e != api.OK {
		t.Fatal(e)
	}
	return n
}

func said(as ...uint32) api.Attrs {
	a := api.Attrs{Next: 9}
	if len(as) > 0 {
		a.Path = []api.Leg{{As: as}}
	}
	return a
}

func hosts(from, n int) []api.Prefix {
	var l []api.Prefix
	for i := range n {
		l = append(l, api.Prefix{Addr: uint32(from + i), Len: 32})
	}
	return l
}

func sameChange(a, b api.Change) bool {
	return a.Prefix == b.Prefix && a.Has == b.Has && attrs.Same(a.Attrs, b.Attrs)
}

func changes(t *testing.T, got []api.Change, e api.Errno, want ...api.Change) {
	t.Helper()
	if e != api.OK || !slices.EqualFunc(got, want, sameChange) {
		t.Fatal(got, e, "not", want)
	}
}

func take(t *testing.T, n *ribin.In, a api.Attrs, l ...api.Prefix) []api.Change {
	t.Helper()
	got, e := n.Take(api.Update{New: l, Attrs: a})
	if e != api.OK {
		t.Fatal(e)
	}
	return got
}

// P24.1: who may tell.
func TestNew(t *testing.T) {
	long := api.Policy{Rules: make([]api.Rule, 17)}
	for i, r := range []struct {
		own uint32
		of  api.Peer
		p   api.Policy
		e   api.Errno
	}{
		{1, outer, pass, api.OK}, {1, inner, pass, api.OK}, {0, outer, pass, api.ErrArg},
		{1, api.Peer{As: 0, Id: 1, Addr: 1}, pass, api.ErrArg}, {1, api.Peer{As: 2, Id: 0, Addr: 1}, pass, api.ErrArg}, {1, api.Peer{As: 2, Id: 1, Addr: 0}, pass, api.ErrArg},
		{2, outer, pass, api.ErrArg}, {2, inner, pass, api.ErrArg}, {1, outer, long, api.ErrArg}, {1, outer, api.Policy{Rules: []api.Rule{{Least: 1}}}, api.ErrArg},
	} {
		n, e := ribin.New(r.own, r.of, r.p)
		if e != r.e || (n == nil) != (e != api.OK) || n.Len() != 0 {
			t.Error(i, n, e)
		}
	}
}

// P24.1, P24.2: what counts, and what changes.
func TestTake(t *testing.T) {
	n := rib(t, outer, pass)
	ten, eleven, twelve := prefix(t, "10.0.0.0/8"), prefix(t, "11.0.0.0/8"), prefix(t, "12.0.0.0/8")
	a := said(2)
	a.HasPref, a.Pref, a.HasMed, a.Med = true, 500, true, 7
	bare := said(2)
	bare.HasMed, bare.Med = true, 7
	changes(t, take(t, n, a, ten, twelve), api.OK, api.Change{Prefix: ten, Has: true, Attrs: bare}, api.Change{Prefix: twelve, Has: true, Attrs: bare})
	changes(t, take(t, n, bare, ten), api.OK) // a Pref that it said does not count
	if x, is := n.Said(ten); !is || !attrs.Same(x, bare) {
		t.Error(x, is)
	}
	if x, is := n.Said(twelve); !is || !attrs.Same(x, a) {
		t.Error("what it said is told as it said it", x, is)
	}
	if r, is := n.Counts(twelve); !is || r.Prefix != twelve || r.Peer != outer || !attrs.Same(r.Attrs, bare) {
		t.Error(r, is)
	}
	l, e := n.Take(api.Update{Gone: []api.Prefix{ten, eleven}, New: []api.Prefix{twelve}, Attrs: said(2, 1)})
	changes(t, l, e, api.Change{Prefix: ten}, api.Change{Prefix: twelve})
	if r, is := n.Counts(twelve); is || r.Prefix != (api.Prefix{}) || n.Len() != 1 {
		t.Error(r, is, n.Len())
	}
	if x, is := n.Said(ten); is || !attrs.Same(x, api.Attrs{}) {
		t.Error(x, is)
	}
	for _, path := range [][]uint32{{3}, {}, {3, 2}, {2, 5, 1}} {
		changes(t, take(t, n, said(path...), eleven), api.OK)
		if _, is := n.Counts(eleven); is || n.Len() != 2 {
			t.Error(path)
		}
	}
	set := api.Attrs{Next: 9, Path: []api.Leg{{Set: true, As: []uint32{2}}}}
	changes(t, take(t, n, set, eleven), api.OK)
	l, e = n.Take(api.Update{})
	changes(t, l, e)
	// Of an inner one the first system does not matter, and its Pref counts.
	n = rib(t, inner, pass)
	b := said(7)
	b.HasPref, b.Pref = true, 3
	changes(t, take(t, n, b, ten), api.OK, api.Change{Prefix: ten, Has: true, Attrs: b})
	changes(t, take(t, n, said(), eleven), api.OK, api.Change{Prefix: eleven, Has: true, Attrs: said()})
	changes(t, take(t, n, said(7, 1), ten), api.OK, api.Change{Prefix: ten})
}

// P24.1: refusals, and the bound.
func TestRefuse(t *testing.T) {
	n := rib(t, outer, pass)
	take(t, n, said(2), hosts(0, 64)...)
	before := n.Copy()
	var long []api.Prefix
	long = hosts(0, 98)
	for i, r := range []struct {
		u api.Update
		e api.Errno
	}{
		{api.Update{New: hosts(0, 1)}, api.ErrArg},
		{api.Update{Gone: hosts(0, 1), New: hosts(0, 1), Attrs: said(2)}, api.ErrArg},
		{api.Update{Gone: long}, api.ErrArg},
		{api.Update{New: hosts(64, 1), Attrs: said(2)}, api.ErrRoutes},
		{api.Update{Gone: hosts(0, 1), New: hosts(63, 3), Attrs: said(2)}, api.ErrRoutes},
		{api.Update{Gone: hosts(90, 5), New: hosts(64, 1), Attrs: said(1)}, api.ErrRoutes},
	} {
		if l, e := n.Take(r.u); l != nil || e != r.e || !ribin.Same(n, before) || n.Len() != 64 {
			t.Error(i, l, e)
		}
	}
	if l, e := n.Take(api.Update{Gone: hosts(0, 2), New: hosts(64, 2), Attrs: said(2)}); e != api.OK || len(l) != 4 || n.Len() != 64 {
		t.Error(l, e)
	}
	if l, e := n.Take(api.Update{New: hosts(2, 64), Attrs: said(2, 3)}); e != api.OK || len(l) != 64 {
		t.Error(len(l), e)
	}
	if l, e := n.Policy(api.Policy{Rules: []api.Rule{{Least: 2}}}); l != nil || e != api.ErrArg {
		t.Error(l, e)
	}
	if l, e := n.Policy(api.Policy{Rules: make([]api.Rule, 17)}); l != nil || e != api.ErrArg {
		t.Error(l, e)
	}
}

// P24.1: another policy; nothing told any more.
func TestPolicyClear(t *testing.T) {
	n := rib(t, outer, api.Policy{})
	l := hosts(1, 4)
	changes(t, take(t, n, said(2), l[0], l[2], l[3]), api.OK)
	a := said(2)
	a.HasPref, a.Pref = true, 7
	rules := []api.Rule{{Cover: l[2], Least: 32, Most: 32, Deny: true}, {Least: 0, Most: 32, HasPref: true, Pref: 7}}
	got, e := n.Policy(api.Policy{Rules: rules})
	changes(t, got, e, api.Change{Prefix: l[0], Has: true, Attrs: a}, api.Change{Prefix: l[3], Has: true, Attrs: a})
	rules[1].Pref = 8 // what was handed in is not kept
	changes(t, take(t, n, said(2), l[1]), api.OK, api.Change{Prefix: l[1], Has: true, Attrs: a})
	got, e = n.Policy(pass)
	changes(t, got, e, api.Change{Prefix: l[0], Has: true, Attrs: said(2)}, api.Change{Prefix: l[1], Has: true, Attrs: said(2)}, api.Change{Prefix: l[2], Has: true, Attrs: said(2)}, api.Change{Prefix: l[3], Has: true, Attrs: said(2)})
	take(t, n, said(3), l[1])
	got, e = n.Clear()
	changes(t, got, e, api.Change{Prefix: l[0]}, api.Change{Prefix: l[2]}, api.Change{Prefix: l[3]})
	got, e = n.Clear()
	changes(t, got, e)
	if n.Len() != 0 {
		t.Error(n.Len())
	}
}

// P24.2: all that was told, rising, as it was when it was asked.
func TestAll(t *testing.T) {
	n := rib(t, outer, pass)
	take(t, n, said(2), hosts(5, 3)...)
	take(t, n, said(3), api.Prefix{})
	all := n.All()
	n.Clear()
	for range 2 {
		var got []api.Prefix
		for p, a := range all {
			want := said(2)
			if p.Len == 0 {
				want = said(3)
			}
			if !attrs.Same(a, want) {
				t.Error(p, a)
			}
			a.Path[0].As[0] = 77
			got = append(got, p)
		}
		if !slices.Equal(got, append([]api.Prefix{{}}, hosts(5, 3)...)) {
			t.Error(got)
		}
		for range all {
			break
		}
	}
}

// P24.3: copies, what is the same, none; memory of one's own.
func TestCopySame(t *testing.T) {
	n := rib(t, outer, pass)
	a := said(2)
	l := take(t, n, a, hosts(1, 1)...)
	a.Path[0].As[0] = 55
	l[0].Attrs.Path[0].As[0] = 56
	x, _ := n.Said(hosts(1, 1)[0])
	x.Path[0].As[0] = 57
	r, _ := n.Counts(hosts(1, 1)[0])
	r.Attrs.Path[0].As[0] = 58
	other := rib(t, outer, pass)
	take(t, other, said(2), hosts(1, 1)...)
	if !ribin.Same(n, other) {
		t.Error("memory is shared")
	}
	if r, _ := n.Counts(hosts(1, 1)[0]); r.Attrs.Path[0].As[0] != 2 {
		t.Error("memory is shared", r)
	}
	c := n.Copy()
	take(t, c, said(2), hosts(2, 1)...)
	c.Policy(api.Policy{})
	if n.Len() != 1 || ribin.Same(n, c) {
		t.Error("a copy goes on apart")
	}
	if _, is := n.Counts(hosts(1, 1)[0]); !is {
		t.Error("a copy's policy")
	}
	d := n.Copy()
	d.Policy(api.Policy{})
	if ribin.Same(n, d) || ribin.Same(rib(t, outer, pass), rib(t, inner, pass)) || ribin.Same(rib(t, outer, pass), rib(t, api.Peer{As: 2, Id: 20, Addr: 201}, pass)) {
		t.Error("Same")
	}
	o, _ := ribin.New(7, outer, pass)
	if ribin.Same(o, rib(t, outer, pass)) {
		t.Error("another own system")
	}
	refused, _ := ribin.New(0, outer, pass)
	for _, none := range []*ribin.In{nil, {}, refused} {
		a, e := none.Take(api.Update{Gone: make([]api.Prefix, 2)})
		b, f := none.Policy(api.Policy{Rules: make([]api.Rule, 17)})
		c, g := none.Clear()
		_, h := none.Said(api.Prefix{})
		_, i := none.Counts(api.Prefix{})
		if a != nil || b != nil || c != nil || e != api.ErrNil || f != api.ErrNil || g != api.ErrNil || h || i || none.Len() != 0 || none.Copy() != nil {
			t.Error("none answers")
		}
		for range none.All() {
			t.Error("none tells")
		}
		if ribin.Same(none, n) || ribin.Same(n, none) || !ribin.Same(none, nil) || !ribin.Same(nil, none) {
			t.Error("a nil one is like a nil one alone")
		}
	}
}

// P24.4: changes, laid onto what counted ahead, are what counts; splitting an update does not matter.
func TestFollows(t *testing.T) {
	x := uint32(9)
	pick := func(n int) int {
		x = x*1664525 + 1013904223
		return int(x >> 12 % uint32(n))
	}
	n, split := rib(t, outer, pass), rib(t, outer, pass)
	counts := map[api.Prefix]api.Attrs{}
	policies := []api.Policy{pass, {}, {Rules: []api.Rule{{Most: 32, As: 4, Deny: true}}, Else: true}, {Rules: []api.Rule{{Most: 32, HasPref: true, Pref: 5, Times: 1}}}}
	for range 3000 {
		var u api.Update
		for _, p := range hosts(0, 90) {
			switch pick(20) {
			case 0:
				u.Gone = append(u.Gone, p)
			case 1, 2:
				u.New = append(u.New, p)
				u.Attrs = said([]uint32{2, 3}[pick(2)], uint32(3+pick(3)))
			}
		}
		l, e := n.Take(u)
		if e == api.OK {
			split.Take(api.Update{Gone: u.Gone})
			split.Take(api.Update{New: u.New, Attrs: u.Attrs})
		}
		if pick(5) == 0 {
			p := policies[pick(4)]
			more, _ := n.Policy(p)
			split.Policy(p)
			l = append(l, more...)
		}
		for _, c := range l {
			delete(counts, c.Prefix)
			if c.Has {
				counts[c.Prefix] = c.Attrs
			}
		}
		if n.Len() > api.MaxRoutes || !ribin.Same(n, split) {
			t.Fatal(n.Len())
		}
		for _, p := range hosts(0, 90) {
			r, is := n.Counts(p)
			a, has := counts[p]
			if is != has || !attrs.Same(a, r.Attrs) {
				t.Fatal(p, r, a)
			}
		}
	}
	if policy.Check(policies[3]) != api.OK {
		t.Error("no policy")
	}
}
