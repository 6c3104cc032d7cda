package decide_test

import (
	"slices"
	"testing"

	"pursuivant/api"
	"pursuivant/decide"
)

// route is one of an outer peer, to which something is changed.
func route(change func(r *api.Route)) api.Route {
	r := api.Route{Attrs: api.Attrs{Origin: 1, Next: 9, Path: []api.Leg{{As: []uint32{2, 3}}}}, Peer: api.Peer{As: 2, Id: 20, Addr: 200}}
	if change != nil {
		change(&r)
	}
	return r
}

func path(as ...uint32) func(r *api.Route) {
	return func(r *api.Route) { r.Attrs.Path = []api.Leg{{As: as}} }
}

func pref(n uint32) func(r *api.Route) {
	return func(r *api.Route) { r.Attrs.HasPref, r.Attrs.Pref = true, n }
}

func med(n uint32) func(r *api.Route) {
	return func(r *api.Route) { r.Attrs.HasMed, r.Attrs.Med = true, n }
}

func origin(n uint8) func(r *api.Route) { return func(r *api.Route) { r.Attrs.Origin = n } }

func peer(p api.Peer) func(r *api.Route) { return func(r *api.Route) { r.Peer = p } }

func all(l ...func(r *api.Route)) func(r *api.Route) {
	return func(r *api.Route) {
		for _, f := range l {
			f(r)
		}
	}
}

type change = func(r *api.Route)

func routes(l ...change) []api.Route {
	var out []api.Route
	for _, c := range l {
		out = append(out, route(c))
	}
	return out
}

var (
	none  = api.Peer{}
	inner = api.Peer{As: 1, Id: 1, Addr: 1, Inner: true}
)

// P25.1: the best one, and why; each step goes ahead of those behind it.
func TestBest(t *testing.T) {
	set := func(r *api.Route) { r.Attrs.Path = []api.Leg{{Set: true, As: []uint32{4, 5, 6}}} }
	other := func(id, addr uint32) change { return peer(api.Peer{As: 2, Id: id, Addr: addr}) }
	for i, r := range []struct {
		l   []api.Route
		at  int
		why api.Why
	}{
		{routes(nil), 0, api.WhyOnly},
		{routes(pref(900), peer(none)), 1, api.WhyOwn},
		{routes(all(peer(none), pref(1)), all(peer(none), pref(2)), pref(3)), 1, api.WhyPref},
		{routes(pref(200), pref(100)), 0, api.WhyPref},
		{routes(pref(99), nil), 1, api.WhyPref},
		{routes(nil, pref(101)), 1, api.WhyPref},
		{routes(pref(0), pref(1<<32-1)), 1, api.WhyPref},
		{routes(all(pref(100), path(2)), nil), 0, api.WhyPath},
		{routes(all(path(2), origin(2)), origin(0)), 0, api.WhyPath},
		{routes(path(2, 3), set), 1, api.WhyPath},
		{routes(all(origin(0), med(9)), all(origin(1), med(0))), 0, api.WhyOrigin},
		{routes(med(5), med(4)), 1, api.WhyMed},
		{routes(med(1), nil), 1, api.WhyMed},
		{routes(all(med(5), other(1, 9)), all(path(3, 3), med(1), other(2, 1))), 0, api.WhyId},
		{routes(all(med(5), peer(api.Peer{As: 2, Id: 1, Addr: 1})), all(med(4), peer(inner))), 1, api.WhyMed},
		{routes(peer(inner), peer(api.Peer{As: 2, Id: 9, Addr: 9})), 1, api.WhyOuter},
		{routes(other(3, 1), other(2, 9)), 1, api.WhyId},
		{routes(other(2, 9), other(2, 8)), 1, api.WhyAddr},
		{routes(nil, nil), 0, api.WhyFirst},
		{routes(pref(1), nil, nil), 1, api.WhyFirst},
		{routes(peer(none), peer(none)), 0, api.WhyFirst},
		// Of one neighbour two ties, of another one a greater tie alone: it stays.
		{routes(all(med(5), other(7, 7)), all(med(4), other(6, 6)), all(path(4, 4), med(90), other(5, 5))), 2, api.WhyId},
	} {
		at, why, e := decide.Best(r.l...)
		if at != r.at || why != r.why || e != api.OK {
			t.Error(i, at, why, e)
		}
		if len(r.l) == 2 {
			want := r.at == 0 && r.why != api.WhyFirst
			back := r.at == 1
			if decide.Better(r.l[0], r.l[1]) != want || decide.Better(r.l[1], r.l[0]) != back {
				t.Error(i, "Better")
			}
		}
	}
	if at, why, e := decide.Best(); at != 0 || why != 0 || e != api.ErrNone {
		t.Error(at, why, e)
	}
}

// P25.2: who is left behind each step.
func TestLeftSteps(t *testing.T) {
	l := routes(pref(1), nil, all(path(4, 3), med(7)), med(3), origin(2), path(2, 3, 4), nil)
	want := map[api.Why][]int{
		api.WhyOwn: {0, 1, 2, 3, 4, 5, 6}, api.WhyPref: {1, 2, 3, 4, 5, 6}, api.WhyPath: {1, 2, 3, 4, 6}, api.WhyOrigin: {1, 2, 3, 6},
		api.WhyMed: {1, 2, 6}, api.WhyOuter: {1, 2, 6}, api.WhyId: {1, 2, 6}, api.WhyAddr: {1, 2, 6}, api.WhyFirst: {1},
	}
	for w := api.WhyOwn; w <= api.WhyFirst; w++ {
		if got, e := decide.Left(w, l...); e != api.OK || !slices.Equal(got, want[w]) {
			t.Error(w, got, e)
		}
		if got, e := decide.Left(w); got != nil || e != api.ErrNone {
			t.Error(w, got, e)
		}
		if got, e := decide.Left(w, l[0]); e != api.OK || !slices.Equal(got, []int{0}) {
			t.Error(w, got, e)
		}
	}
	for _, w := range []api.Why{api.WhyNone, api.WhyOnly, 11, -1, 1 << 40} {
		for _, l := range [][]api.Route{nil, l} {
			if got, e := decide.Left(w, l...); got != nil || e != api.ErrArg {
				t.Error(w, got, e)
			}
		}
	}
	steps := decide.Steps(l...)
	for i := range l {
		l[i].Attrs.Path[0].As[0] = 77 // what was handed in is not kept
		l[i].Peer = none
	}
	for range 2 {
		next := api.WhyOwn
		for w, left := range steps {
			if w != next || !slices.Equal(left, want[w]) {
				t.Error(w, left)
			}
			left[0] = 99
			next++
		}
		if next != api.WhyFirst+1 {
			t.Error(next)
		}
		for range steps {
			break
		}
	}
	ask := func(want []api.Why, l ...api.Route) {
		t.Helper()
		var got []api.Why
		for w := range decide.Steps(l...) {
			got = append(got, w)
		}
		if !slices.Equal(got, want) {
			t.Error(got)
		}
	}
	ask(nil)
	ask([]api.Why{api.WhyOnly}, route(nil))
	ask([]api.Why{api.WhyOwn, api.WhyPref}, routes(nil, pref(1))...)
	ask([]api.Why{api.WhyOwn}, routes(nil, peer(none))...)
}

// P25.3: the steps' names.
func TestName(t *testing.T) {
	for i, want := range []string{"", "only", "own", "pref", "path", "origin", "med", "outer", "id", "addr", "first", ""} {
		if got, is := decide.Name(api.Why(i)); got != want || is != (want != "") {
			t.Error(i, got, is)
		}
	}
	for _, w := range []api.Why{-1, -1 << 63, 1<<63 - 1} {
		if got, is := decide.Name(w); got != "" || is {
			t.Error(w, got, is)
		}
	}
}

// P25.4: the order does not matter, if peers differ; Better is no circle of two.
func TestFollows(t *testing.T) {
	x := uint32(4)
	pick := func(n int) int {
		x = x*1664525 + 1013904223
		return int(x >> 12 % uint32(n))
	}
	for range 3000 {
		var l []api.Route
		for i := range 1 + pick(6) {
			r := route(path(uint32(2+pick(2)), 3))
			if pick(2) == 0 {
				med(uint32(pick(3)))(&r)
			}
			if pick(4) == 0 {
				pref(uint32(99 + pick(3)))(&r)
			}
			origin(uint8(pick(2)))(&r)
			r.Peer = api.Peer{As: 2, Id: uint32(1 + pick(2)), Addr: uint32(1 + i), Inner: pick(2) == 0}
			l = append(l, r)
		}
		at, why, _ := decide.Best(l...)
		n := len(l)
		for w, left := range decide.Steps(l...) {
			if len(left) == 0 || len(left) > n || !slices.Contains(left, at) || w > why {
				t.Fatal(w, left)
			}
			n = len(left)
		}
		best := l[at]
		turned := slices.Clone(l)
		slices.Reverse(turned)
		if to, again, _ := decide.Best(turned...); turned[to].Peer != best.Peer || again != why {
			t.Fatal(l, why, again)
		}
		for _, r := range l {
			if decide.Better(r, best) && decide.Better(best, r) {
				t.Fatal("a circle of two")
			}
		}
	}
}
