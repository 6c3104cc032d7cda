package speaker

import (
	"iter"
	"slices"

	"pursuivant/api"
	"pursuivant/seg"
)

// doing is a call of a speaker under way: the datagrams that go.
type doing struct {
	*Speaker
	datagrams [][]byte
}

// raws goes over segments' bytes.
func raws(l ...api.Seg) iter.Seq[[]byte] {
	return func(yield func([]byte) bool) {
		for _, s := range l {
			if b, e := seg.Raw(s); e == api.OK && !yield(b) {
				return
			}
		}
	}
}

// goes: a line sends these.
func (d *doing) goes(l ...api.Seg) {
	for b := range raws(l...) {
		d.datagrams = append(d.datagrams, b)
	}
}

// want wants a line, or not; what it tells by that is left.
func (d *doing) want(n int, is bool) []api.Tiding {
	segs, tidings, _ := d.lines[n].Want(d.keys, is)
	d.goes(segs...)
	return tidings
}

// heeds is, by a tiding's kind, what the rib does.
func heeds() map[api.DeedKind]func(r routes, n int, t api.Tiding) api.Errno {
	return map[api.DeedKind]func(r routes, n int, t api.Tiding) api.Errno{
		api.DeedOpen:   routes.opens,
		api.DeedClose:  routes.closes,
		api.DeedUpdate: routes.hears,
	}
}

// heed does what a line's tidings ask for. A neighbor that tells too many routes is let go, and wanted anew.
func (d *doing) heed(n int, l ...api.Tiding) {
	by := heeds()
	for len(l) > 0 {
		t := l[0]
		l = l[1:]
		if by[t.Kind](d.routes, n, t) == api.ErrRoutes {
			ahead := d.want(n, false)
			ahead = append(ahead, d.want(n, true)...)
			l = slices.Concat(ahead, l)
		}
	}
}

// tell tells each line that is ready what there is to tell, till there is nothing more.
func (d *doing) tell() {
	told := func(n int) bool {
		if !d.lines[n].Ready() {
			return false
		}
		updates := d.tells(n)
		if len(updates) == 0 {
			return false
		}
		segs, _ := d.lines[n].Say(d.keys, updates...)
		d.goes(segs...)
		return true
	}
	for n := 0; n < len(d.lines); n++ {
		if told(n) {
			n = -1 // anew, with the first line
		}
	}
}
