package rib

import (
	"iter"
	"maps"
	"slices"

	"pursuivant/api"
	"pursuivant/attrs"
	"pursuivant/decide"
	"pursuivant/update"
)

const addrBits = 32

// candidates is the routes to a prefix that may be the best one.
func (r *Rib) candidates(to api.Prefix) []api.Route {
	var l []api.Route
	add := func(more ...api.Route) { l = append(l, more...) }
	if a, is := r.own[to]; is {
		add(api.Route{Prefix: to, Attrs: attrs.Copy(a)})
	}
	for _, p := range r.peers {
		if !p.up {
			continue
		}
		if route, is := p.Counts(to); is {
			add(route)
		}
	}
	return l
}

// best is the best one of candidates; false, if there are none.
func best(l ...api.Route) (api.Best, bool) {
	at, why, e := decide.Best(l...)
	if e != api.OK {
		return api.Best{}, false
	}
	return api.Best{Route: l[at], Why: why, Many: len(l)}, true
}

// Best: P27.3.
func (r *Rib) Best(p api.Prefix) (api.Best, bool) {
	if r.none() {
		return api.Best{}, false
	}
	return best(r.candidates(p)...)
}

// heard is all prefixes of which something is told, or own, rising.
func (r *Rib) heard() []api.Prefix {
	l := slices.Collect(maps.Keys(r.own))
	for _, p := range r.peers {
		for to := range p.All() {
			l = append(l, to)
		}
	}
	return update.Sort(l...)
}

// each goes over the prefixes that have candidates, rising, with the best ones.
func (r *Rib) each() iter.Seq2[api.Prefix, api.Best] {
	worked := func(p api.Prefix) (api.Best, bool) { return best(r.candidates(p)...) }
	return func(yield func(api.Prefix, api.Best) bool) {
		for _, p := range r.heard() {
			if b, is := worked(p); is && !yield(p, b) {
				return
			}
		}
	}
}

// All: P27.3.
func (r *Rib) All() iter.Seq2[api.Prefix, api.Best] {
	var now *Rib // as it is when it is called
	if !r.none() {
		now = r.Copy()
	}
	return func(yield func(api.Prefix, api.Best) bool) {
		if now == nil {
			return
		}
	all:
		for p, b := range now.each() {
			switch {
			case !yield(p, b):
				break all
			}
		}
	}
}

// To: P27.3.
func (r *Rib) To(addr uint32) (api.Best, bool) {
	if r.none() {
		return api.Best{}, false
	}
	for length := addrBits; length >= 0; length-- {
		to := api.Prefix{Addr: addr >> (addrBits - length) << (addrBits - length), Len: uint8(length)}
		if b, is := r.Best(to); is {
			return b, true
		}
	}
	return api.Best{}, false
}

// Len: P27.3.
func (r *Rib) Len() int {
	if r.none() {
		return 0
	}
	n := 0
	for range r.each() {
		n++
	}
	return n
}
