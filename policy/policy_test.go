package policy_test

import (
	"bytes"
	"slices"
	"testing"

	"pursuivant/api"
	"pursuivant/attrs"
	"pursuivant/policy"
	"pursuivant/update"
)

func prefix(t *testing.T, text string) api.Prefix {
	t.Helper()
	p, e := update.Of(text)
	if e != api.OK {
		t.Fatal(text)
	}
	return p
}

var ten = api.Prefix{Addr: 0x0a000000, Len: 8}

// rule fits all of 10.0.0.0/8 from 8 to 24.
func rule(change func(r *api.Rule)) api.Rule {
	r := api.Rule{Cover: ten, Least: 8, Most: 24}
	if change != nil {
		change(&r)
	}
	return r
}

func full() api.Rule {
	return api.Rule{Cover: ten, Least: 9, Most: 10, HasTag: true, Tag: 0x01020304, As: 0x05060708, HasPref: true, Pref: 0x090a0b0c, HasMed: true, Med: 0x0d0e0f10, HasAdd: true, Add: 0x11121314, Times: 7}
}

func said(as ...uint32) api.Attrs {
	a := api.Attrs{Next: 9}
	if len(as) > 0 {
		a.Path = []api.Leg{{As: as}}
	}
	return a
}

// P23.1: which rules and policies may be.
func TestCheck(t *testing.T) {
	for i, r := range []struct {
		change func(r *api.Rule)
		e      api.Errno
	}{
		{nil, api.OK},
		{func(r *api.Rule) { *r = full() }, api.OK},
		{func(r *api.Rule) { *r = api.Rule{} }, api.OK},
		{func(r *api.Rule) { r.Cover.Addr++ }, api.ErrArg},
		{func(r *api.Rule) { r.Cover.Len = 33 }, api.ErrArg},
		{func(r *api.Rule) { r.Least = 25 }, api.ErrArg},
		{func(r *api.Rule) { r.Least = 24 }, api.OK},
		{func(r *api.Rule) { r.Most = 32 }, api.OK},
		{func(r *api.Rule) { r.Most = 33 }, api.ErrArg},
		{func(r *api.Rule) { r.Least, r.Most = 0, 0 }, api.OK},
		{func(r *api.Rule) { r.Tag = 1 }, api.ErrArg},
		{func(r *api.Rule) { r.HasTag = true }, api.OK},
		{func(r *api.Rule) { r.Pref = 1 }, api.ErrArg},
		{func(r *api.Rule) { r.Med = 1 }, api.ErrArg},
		{func(r *api.Rule) { r.Add = 1 }, api.ErrArg},
		{func(r *api.Rule) { r.Times = 8 }, api.OK},
		{func(r *api.Rule) { r.Times = 9 }, api.ErrArg},
		{func(r *api.Rule) { r.Deny, r.HasTag, r.Tag, r.As = true, true, 4, 5 }, api.OK},
		{func(r *api.Rule) { r.Deny, r.HasPref = true, true }, api.ErrArg},
		{func(r *api.Rule) { r.Deny, r.HasMed = true, true }, api.ErrArg},
		{func(r *api.Rule) { r.Deny, r.HasAdd = true, true }, api.ErrArg},
		{func(r *api.Rule) { r.Deny, r.Times = true, 1 }, api.ErrArg},
	} {
		for _, n := range []int{1, 16, 17} {
			p := api.Policy{Rules: slices.Repeat([]api.Rule{rule(nil)}, n)}
			p.Rules[n-1] = rule(r.change)
			want := r.e
			if want == api.OK && n == 17 {
				want = api.ErrLong
			}
			b, e := policy.Raw(p)
			_, passes, f := policy.By(p, 1, ten, said())
			if policy.Check(p) != want || e != want || f != want || e != api.OK && (b != nil || passes) {
				t.Error(i, n, policy.Check(p), e, f)
			}
		}
	}
	if policy.Check(api.Policy{}) != api.OK {
		t.Error("no rules")
	}
}

// P23.1: what a rule fits, and which one does first.
func TestFitsWhich(t *testing.T) {
	tagged := said(7, 8)
	tagged.Tags = []uint32{0, 5}
	for i, r := range []struct {
		change func(r *api.Rule)
		to     string
		a      api.Attrs
		fits   bool
	}{
		{nil, "10.0.0.0/8", said(), true},
		{nil, "10.1.2.0/24", said(), true},
		{nil, "10.1.2.0/25", said(), false},
		{nil, "11.0.0.0/8", said(), false},
		{nil, "10.0.0.0/7", said(), false},
		{func(r *api.Rule) { r.Least = 9 }, "10.0.0.0/8", said(), false},
		{func(r *api.Rule) { r.HasTag, r.Tag = true, 5 }, "10.0.0.0/8", tagged, true},
		{func(r *api.Rule) { r.HasTag, r.Tag = true, 6 }, "10.0.0.0/8", tagged, false},
		{func(r *api.Rule) { r.HasTag = true }, "10.0.0.0/8", tagged, true},
		{func(r *api.Rule) { r.HasTag = true }, "10.0.0.0/8", said(), false},
		{func(r *api.Rule) { r.As = 8 }, "10.0.0.0/8", tagged, true},
		{func(r *api.Rule) { r.As = 9 }, "10.0.0.0/8", tagged, false},
		{func(r *api.Rule) { r.Deny = true }, "10.0.0.0/8", said(), true},
		{func(r *api.Rule) { r.Times = 9 }, "10.0.0.0/8", said(), false},
		{nil, "10.0.0.0/8", api.Attrs{}, false},
	} {
		it, to := rule(r.change), prefix(t, r.to)
		if got := policy.Fits(it, to, r.a); got != r.fits {
			t.Error(i, got)
		}
		want := -1
		if r.fits {
			want = 2
		}
		other := rule(func(r *api.Rule) { r.Cover = api.Prefix{Addr: 1, Len: 32} })
		if got := policy.Which(api.Policy{Rules: []api.Rule{other, other, it, it}}, to, r.a); got != want {
			t.Error(i, got)
		}
	}
	if policy.Fits(rule(nil), api.Prefix{Addr: 0x0a000001, Len: 8}, said()) || policy.Which(api.Policy{}, ten, said()) != -1 {
		t.Error("a prefix that is none; no rules")
	}
}

// P23.2: what passes, and how.
func TestBy(t *testing.T) {
	given := api.Attrs{Origin: 1, Path: []api.Leg{{As: []uint32{7}}}, Next: 9, HasMed: true, Med: 3, Tags: []uint32{4}}
	by := func(r api.Rule, own uint32, a api.Attrs) (api.Attrs, bool, api.Errno) {
		return policy.By(api.Policy{Rules: []api.Rule{r}}, own, ten, a)
	}
	for i, r := range []struct {
		change func(r *api.Rule)
		want   func(a *api.Attrs)
	}{
		{nil, func(a *api.Attrs) {}},
		{func(r *api.Rule) { r.HasPref, r.Pref = true, 200 }, func(a *api.Attrs) { a.HasPref, a.Pref = true, 200 }},
		{func(r *api.Rule) { r.HasMed = true }, func(a *api.Attrs) { a.Med = 0 }},
		{func(r *api.Rule) { r.HasAdd, r.Add = true, 2 }, func(a *api.Attrs) { a.Tags = []uint32{2, 4} }},
		{func(r *api.Rule) { r.HasAdd, r.Add = true, 4 }, func(a *api.Attrs) {}},
		{func(r *api.Rule) { r.Times = 2 }, func(a *api.Attrs) { a.Path = []api.Leg{{As: []uint32{5, 5, 7}}} }},
	} {
		want := attrs.Copy(given)
		r.want(&want)
		a, passes, e := by(rule(r.change), 5, given)
		if e != api.OK || !passes || !attrs.Same(a, want) {
			t.Error(i, a, passes, e)
		}
		a.Path[0].As[0], a.Tags[0] = 99, 99
		if given.Path[0].As[0] != 7 || given.Tags[0] != 4 {
			t.Fatal("an answer shares memory with what was handed in")
		}
	}
	long := given
	long.Path = []api.Leg{{As: slices.Repeat([]uint32{3}, 32)}}
	many := given
	many.Tags = nil
	for i := range uint32(16) {
		many.Tags = append(many.Tags, i)
	}
	for i, r := range []struct {
		change func(r *api.Rule)
		a      api.Attrs
	}{{func(r *api.Rule) { r.Deny = true }, given}, {func(r *api.Rule) { r.Times = 1 }, long}, {func(r *api.Rule) { r.HasAdd, r.Add = true, 20 }, many}} {
		if a, passes, e := by(rule(r.change), 5, r.a); e != api.OK || passes || !attrs.Same(a, api.Attrs{}) {
			t.Error(i, a, passes, e)
		}
	}
	for _, other := range []bool{true, false} {
		a, passes, e := policy.By(api.Policy{Rules: []api.Rule{rule(func(r *api.Rule) { r.Deny = true })}, Else: other}, 5, api.Prefix{}, given)
		if e != api.OK || passes != other || other && !attrs.Same(a, given) || !other && !attrs.Same(a, api.Attrs{}) {
			t.Error(other, a, passes, e)
		}
		if other {
			a.Path[0].As[0] = 99
			if given.Path[0].As[0] != 7 {
				t.Fatal("an answer shares memory with what was handed in")
			}
		}
	}
	seventeen := api.Policy{Rules: slices.Repeat([]api.Rule{rule(nil)}, 17), Else: true}
	for i, r := range []struct {
		p   api.Policy
		own uint32
		to  api.Prefix
		a   api.Attrs
		e   api.Errno
	}{
		{api.Policy{Else: true}, 0, ten, given, api.ErrArg},
		{api.Policy{Else: true}, 1, api.Prefix{Addr: 1}, given, api.ErrArg},
		{api.Policy{Else: true}, 1, ten, api.Attrs{}, api.ErrArg},
		{seventeen, 0, ten, given, api.ErrArg},
		{seventeen, 1, ten, api.Attrs{}, api.ErrArg},
		{seventeen, 1, ten, given, api.ErrLong},
	} {
		if a, passes, e := policy.By(r.p, r.own, r.to, r.a); e != r.e || passes || !attrs.Same(a, api.Attrs{}) {
			t.Error(i, a, passes, e)
		}
	}
}

// P23.3: a policy's bytes.
func TestRawParseSame(t *testing.T) {
	b, e := policy.Raw(api.Policy{Rules: []api.Rule{full(), rule(func(r *api.Rule) { r.Deny = true })}, Else: true})
	want := []byte{1,
		10, 0, 0, 0, 8, 9, 10, 29, 1, 2, 3, 4, 5, 6, 7, 8, 9, 10, 11, 12, 13, 14, 15, 16, 17, 18, 19, 20, 7,
		10, 0, 0, 0, 8, 8, 24, 2, 0, 0, 0, 0, 0, 0, 0, 0, 0, 0, 0, 0, 0, 0, 0, 0, 0, 0, 0, 0, 0,
	}
	if e != api.OK || !bytes.Equal(b, want) {
		t.Errorf("%x %v", b, e)
	}
	changed := func(at int, to byte) []byte {
		c := bytes.Clone(want)
		c[at] = to
		return c
	}
	sixteen, _ := policy.Raw(api.Policy{Rules: slices.Repeat([]api.Rule{full()}, 16)})
	for i, r := range []struct {
		b []byte
		e api.Errno
	}{
		{nil, api.ErrRule}, {[]byte{2}, api.ErrRule}, {[]byte{0}, api.OK}, {[]byte{1}, api.OK}, {want[:len(want)-1], api.ErrRule}, {append(bytes.Clone(want), 0), api.ErrRule},
		{changed(1, 11), api.OK}, {changed(4, 1), api.ErrRule}, {changed(5, 33), api.ErrRule}, {changed(6, 11), api.ErrRule}, {changed(7, 33), api.ErrRule},
		{changed(8, 31), api.ErrRule}, {changed(8, 28), api.ErrRule}, {changed(8, 61), api.ErrRule}, {changed(8, 157), api.ErrRule}, {changed(29, 9), api.ErrRule}, {changed(29, 8), api.OK},
		{sixteen, api.OK}, {append(bytes.Clone(sixteen), want[1:30]...), api.ErrRule},
	} {
		p, e := policy.Parse(r.b)
		if e != r.e || e != api.OK && !policy.Same(p, api.Policy{}) {
			t.Error(i, p, e)
		}
	}
	for i, change := range []func(r *api.Rule){
		func(r *api.Rule) { r.Cover.Len++ }, func(r *api.Rule) { r.Least-- }, func(r *api.Rule) { r.Tag++ }, func(r *api.Rule) { r.As++ },
		func(r *api.Rule) { r.Deny = true }, func(r *api.Rule) { r.HasPref = false }, func(r *api.Rule) { r.Times-- },
	} {
		r := full()
		change(&r)
		a, b := api.Policy{Rules: []api.Rule{full()}}, api.Policy{Rules: []api.Rule{r}}
		if policy.Same(a, b) || policy.Same(b, a) {
			t.Error(i)
		}
	}
	if policy.Same(api.Policy{Else: true}, api.Policy{}) || !policy.Same(api.Policy{}, api.Policy{Rules: []api.Rule{}}) || policy.Same(api.Policy{}, api.Policy{Rules: []api.Rule{full()}}) {
		t.Error("Same")
	}
}

// P23.4: rules behind the first one that fits change nothing; there and back.
func TestFollows(t *testing.T) {
	first := rule(func(r *api.Rule) { r.HasPref, r.Pref = true, 5 })
	a, _, _ := policy.By(api.Policy{Rules: []api.Rule{first}}, 1, ten, said(3))
	for _, behind := range []api.Rule{rule(func(r *api.Rule) { r.Deny = true }), rule(func(r *api.Rule) { r.Times = 3 })} {
		b, passes, e := policy.By(api.Policy{Rules: []api.Rule{first, behind}, Else: true}, 1, ten, said(3))
		if e != api.OK || !passes || !attrs.Same(a, b) {
			t.Error(b, passes, e)
		}
	}
	for n := range 17 {
		p := api.Policy{Else: n%2 == 0}
		for i := range n {
			p.Rules = append(p.Rules, rule(func(r *api.Rule) {
				r.HasTag, r.Deny = i%2 == 0, i%3 == 0
				if !r.Deny {
					r.HasPref, r.HasMed, r.HasAdd, r.Times = i%4 == 0, i%5 == 0, i%7 == 0, uint8(i%9)
				}
			}))
		}
		b, e := policy.Raw(p)
		if e != api.OK || len(b) != 1+29*n {
			t.Fatal(e)
		}
		if back, e := policy.Parse(b); e != api.OK || !policy.Same(back, p) {
			t.Error(n, back, e)
		}
	}
}

func FuzzParse(f *testing.F) {
	b, _ := policy.Raw(api.Policy{Rules: []api.Rule{full(), rule(nil)}, Else: true})
	f.Add(b)
	f.Fuzz(func(t *testing.T, b []byte) {
		p, e := policy.Parse(b)
		if e != api.OK {
			return
		}
		if again, e := policy.Raw(p); e != api.OK || !bytes.Equal(again, b) {
			t.Error(again, e)
		}
	})
}
