package script

import (
	"slices"

	"pursuivant/api"
	"pursuivant/attrs"
	"pursuivant/world"
)

const (
	leastHold = 3
	mostRetry = 65535
	isnStep   = 1000
)

// Plain: P31.2.
func Plain(n int, hold uint16, retry int, inner bool) ([]api.Router, api.Errno) {
	if n < 1 || n > api.MaxPeers || hold != 0 && hold < leastHold || retry < 1 || retry > mostRetry {
		return nil, api.ErrArg
	}
	as := func(i int) uint32 {
		if inner {
			return 1
		}
		return uint32(i + 1)
	}
	var l []api.Router
	for i := range n {
		name := uint32(i + 1)
		r := api.Router{Self: api.Self{As: as(i), Id: name, Addr: name}, Hold: hold, ISN: uint32(isnStep * i)}
		for j := range n {
			if other := uint32(j + 1); j != i {
				pass := api.Policy{Else: true}
				r.Neighbors = append(r.Neighbors, api.Neighbor{Addr: other, As: as(j), Id: other, Retry: retry, In: pass, Out: pass})
			}
		}
		l = append(l, r)
	}
	return l, api.OK
}

// life is one that is lived.
type life struct {
	*world.World
	errs []api.Errno
}

// does does turns, in order, as long as each may be told.
func (f *life) does(l ...api.Turn) {
	all := tableOfAll()
	for _, t := range l {
		e := all.check(t)
		if e == api.OK {
			e = f.Turn(t)
		}
		f.errs = append(f.errs, e)
	}
}

// stood is how the router at a place stands.
func (f *life) stood(n int) api.Stood {
	s, _ := f.Speaker(n)
	out := api.Stood{State: s.State(), Keys: s.Keys().All()}
	for _, b := range s.Rib().All() {
		out.Best = append(out.Best, b)
	}
	return out
}

// Play: P31.2.
func Play(l []api.Router, turns ...api.Turn) (api.Lived, api.Errno) {
	w, e := world.New(l...)
	if e != api.OK {
		return api.Lived{}, api.ErrArg
	}
	f := &life{World: w}
	f.does(turns...)
	x := api.Lived{Errs: f.errs, Bag: len(f.Bag())}
	for n := range f.Len() {
		x.Routers = append(x.Routers, f.stood(n))
	}
	return x, api.OK
}

// bounded: is it within its bounds?
func bounded(s api.Stood) bool {
	return len(s.Best) <= api.MaxRoutes*(1+len(s.State.Lines)) && len(s.Keys) <= api.MaxKeys
}

// puts: does an In policy of the router put its own system into paths?
func puts(r api.Router) bool {
	return slices.ContainsFunc(r.Neighbors, func(n api.Neighbor) bool {
		return slices.ContainsFunc(n.In.Rules, func(r api.Rule) bool { return r.Times > 0 })
	})
}

// clean: has no best route of another router been here already?
func clean(r api.Router, s api.Stood) bool {
	return puts(r) || !slices.ContainsFunc(s.Best, func(b api.Best) bool {
		return b.Route.Peer != api.Peer{} && attrs.Has(b.Route.Attrs, r.Self.As)
	})
}

// Keeps: P31.3.
func Keeps(l []api.Router, x api.Lived) api.Kept {
	k := api.Kept{Bounds: x.Bag <= api.MaxBag, Clean: true}
	for i, s := range x.Routers {
		k.Bounds = k.Bounds && bounded(s)
		if i < len(l) {
			k.Clean = k.Clean && clean(l[i], s)
		}
	}
	return k
}

// sameList: are two lists the same, one by one?
func sameList[T any](a, b []T, same func(x, y T) bool) bool { return slices.EqualFunc(a, b, same) }

func equal[T comparable](x, y T) bool { return x == y }

func sameSession(a, b api.Session) bool {
	return a.Hold == b.Hold && a.Inner == b.Inner && sameList(a.Caps, b.Caps, equal)
}

func sameFsm(a, b api.Fsm) bool {
	return a.At == b.At && a.Retry == b.Retry && a.Hold == b.Hold && a.Keep == b.Keep && sameSession(a.Session, b.Session)
}

func sameLine(a, b api.LineState) bool {
	return sameFsm(a.Fsm, b.Fsm) && a.Wanted == b.Wanted && a.Has == b.Has && a.Stream == b.Stream && a.Guard == b.Guard &&
		a.Dropped == b.Dropped && a.Waits == b.Waits
}

func sameState(a, b api.SpeakerState) bool {
	return sameList(a.Lines, b.Lines, sameLine) && a.Bad == b.Bad && a.Strange == b.Strange && a.Routes == b.Routes
}

func sameBest(a, b api.Best) bool {
	return a.Why == b.Why && a.Many == b.Many && a.Route.Prefix == b.Route.Prefix && a.Route.Peer == b.Route.Peer && attrs.Same(a.Route.Attrs, b.Route.Attrs)
}

func sameStood(a, b api.Stood) bool {
	return sameState(a.State, b.State) && sameList(a.Best, b.Best, sameBest) && sameList(a.Keys, b.Keys, equal)
}

// Same: P31.2.
func Same(a, b api.Lived) bool {
	return sameList(a.Errs, b.Errs, equal) && sameList(a.Routers, b.Routers, sameStood) && a.Bag == b.Bag
}
