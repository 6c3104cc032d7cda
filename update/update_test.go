package update_test

import (
	"bytes"
	"slices"
	"testing"

	"pursuivant/api"
	"pursuivant/attrs"
	"pursuivant/update"
)

func prefix(t *testing.T, text string) api.Prefix {
	t.Helper()
	p, e := update.Of(text)
	if e != api.OK {
		t.Fatal(text, e)
	}
	return p
}

func list(t *testing.T, texts ...string) []api.Prefix {
	t.Helper()
	var l []api.Prefix
	for _, s := range texts {
		l = append(l, prefix(t, s))
	}
	return l
}

// hosts is so many prefixes of 32 bits, rising.
func hosts(from, n int) []api.Prefix {
	var l []api.Prefix
	for i := range n {
		l = append(l, api.Prefix{Addr: uint32(from + i), Len: 32})
	}
	return l
}

var said = api.Attrs{Next: 9}

var wrong = []api.Prefix{{Len: 33}, {Len: 255}, {Addr: 1, Len: 31}, {Addr: 1}, {Addr: 1 << 31, Len: 0}, {Addr: 0x0a000001, Len: 8}}

// P20.1: which prefixes may be, and their texts.
func TestRightTextOf(t *testing.T) {
	for text, p := range map[string]api.Prefix{
		"0.0.0.0/0": {}, "10.0.0.0/8": {Addr: 0x0a000000, Len: 8}, "255.255.255.255/32": {Addr: 1<<32 - 1, Len: 32}, "1.2.3.0/24": {Addr: 0x01020300, Len: 24}, "128.0.0.0/1": {Addr: 1 << 31, Len: 1}, "0.0.0.0/32": {Len: 32},
	} {
		if !update.Right(p) || update.Text(p) != text {
			t.Error(text, update.Text(p))
		}
		if q, e := update.Of(text); q != p || e != api.OK {
			t.Error(text, q, e)
		}
	}
	for _, p := range wrong {
		if update.Right(p) || update.Text(p) != "" {
			t.Error(p)
		}
	}
	for _, text := range []string{
		"", "/", "10.0.0.1/8", "010.0.0.0/8", "10.0.0.0", "10.0.0.0/", "10.0.0.0/08", "10.0.0.0/33", "10.0.0/8", "10.0.0.0.0/8", "256.0.0.0/8", "10.0.0.-0/8",
		"10.0.0.0/+8", "10.0.0.0/-8", " 10.0.0.0/8", "10.0.0.0/8 ", "10.0.0.0/8/8", "10..0.0/8", "10.0.0.0x/8", "1_0.0.0.0/8", "\xff.0.0.0/8", "10.0.0.0/99999999999999999999", "١.0.0.0/8",
	} {
		if p, e := update.Of(text); p != (api.Prefix{}) || e != api.ErrText {
			t.Error(text, p, e)
		}
	}
}

// P20.1, P20.3: what covers what; it is an order.
func TestCovers(t *testing.T) {
	l := list(t, "0.0.0.0/0", "10.0.0.0/8", "10.0.0.0/7", "10.0.0.0/16", "10.1.0.0/16", "10.1.2.3/32", "11.0.0.0/8", "128.0.0.0/1", "255.255.255.255/32", "0.0.0.0/32")
	for i, p := range l {
		for j, q := range l {
			// Each address of the second one is of the first one.
			size := func(p api.Prefix) uint64 { return 1 << (32 - p.Len) }
			from, to := uint64(p.Addr), uint64(p.Addr)+size(p)
			want := from <= uint64(q.Addr) && uint64(q.Addr)+size(q) <= to
			if update.Covers(p, q) != want {
				t.Error(p, q)
			}
			if want && update.Covers(q, p) && i != j {
				t.Error("two cover each other", p, q)
			}
			for _, r := range l {
				if want && update.Covers(q, r) && !update.Covers(p, r) {
					t.Error("no order", p, q, r)
				}
			}
		}
		for _, w := range wrong {
			if update.Covers(p, w) || update.Covers(w, p) || update.Covers(w, w) {
				t.Error(p, w)
			}
		}
	}
}

// P20.1: how prefixes rise, and are sorted.
func TestCompareSort(t *testing.T) {
	l := append(list(t, "0.0.0.0/0", "0.0.0.0/1", "10.0.0.0/8", "10.0.0.0/9", "11.0.0.0/8", "255.0.0.0/8"), api.Prefix{Addr: 1<<32 - 1, Len: 0}, api.Prefix{Addr: 1<<32 - 1, Len: 200})
	for i, p := range l {
		for j, q := range l {
			want := 0
			if i < j {
				want = -1
			} else if i > j {
				want = 1
			}
			if got := update.Compare(p, q); got != want {
				t.Error(p, q, got)
			}
		}
	}
	given := append(list(t, "11.0.0.0/8", "10.0.0.0/9", "11.0.0.0/8", "0.0.0.0/0", "10.0.0.0/8"), wrong...)
	before := slices.Clone(given)
	if got := update.Sort(given...); !slices.Equal(got, list(t, "0.0.0.0/0", "10.0.0.0/8", "10.0.0.0/9", "11.0.0.0/8")) || !slices.Equal(given, before) {
		t.Error(got, given)
	}
	if got := update.Sort(); len(got) != 0 {
		t.Error(got)
	}
}

// P20.2: which updates may be, and their bodies.
func TestCheckRaw(t *testing.T) {
	ten, eleven := list(t, "10.0.0.0/8"), list(t, "11.0.0.0/8")
	both := append(slices.Clone(ten), eleven...)
	wide := slices.Repeat([]api.Leg{{As: []uint32{1, 2, 3, 4, 5, 6, 7, 8, 9, 10}}}, 8)
	for i, r := range []struct {
		u api.Update
		e api.Errno
	}{
		{api.Update{}, api.OK},
		{api.Update{Gone: both}, api.OK},
		{api.Update{New: both, Attrs: said}, api.OK},
		{api.Update{Gone: ten, New: eleven, Attrs: said}, api.OK},
		{api.Update{Gone: ten, New: ten, Attrs: said}, api.ErrArg},
		{api.Update{New: ten}, api.ErrArg},
		{api.Update{Attrs: said}, api.ErrArg},
		{api.Update{Gone: ten, Attrs: said}, api.ErrArg},
		{api.Update{Gone: ten, Attrs: api.Attrs{Path: []api.Leg{}, Tags: []uint32{}}}, api.OK},
		{api.Update{New: ten, Attrs: api.Attrs{Next: 9, Origin: 3}}, api.ErrArg},
		{api.Update{Gone: append(eleven, ten...)}, api.ErrArg},
		{api.Update{Gone: append(slices.Clone(ten), ten...)}, api.ErrArg},
		{api.Update{New: append(slices.Clone(eleven), ten...), Attrs: said}, api.ErrArg},
		{api.Update{Gone: wrong[:1]}, api.ErrArg},
		{api.Update{New: wrong[2:3], Attrs: said}, api.ErrArg},
		{api.Update{Gone: hosts(0, 97)}, api.OK}, // 4 and 485
		{api.Update{Gone: hosts(0, 98)}, api.ErrLong},
		{api.Update{Gone: append([]api.Prefix{{Addr: 0, Len: 24}}, hosts(0, 97)...)}, api.OK}, // 4 and 4 and 485: 493
		{api.Update{Gone: append([]api.Prefix{{Addr: 0, Len: 24}, {Addr: 0, Len: 25}}, hosts(0, 97)...)}, api.ErrLong},
		{api.Update{Gone: append(hosts(0, 20000), hosts(0, 1)...)}, api.ErrArg},
		{api.Update{Gone: hosts(0, 20000)}, api.ErrLong},
		{api.Update{New: hosts(0, 95), Attrs: said}, api.OK}, // 4 and 14 and 475: 493
		{api.Update{New: hosts(0, 96), Attrs: said}, api.ErrLong},
		{api.Update{New: hosts(0, 20), Attrs: api.Attrs{Next: 9, Path: wide}}, api.OK},
		{api.Update{New: hosts(0, 40), Attrs: api.Attrs{Next: 9, Path: wide}}, api.ErrLong},
	} {
		b, e := update.Raw(r.u)
		if update.Check(r.u) != r.e || e != r.e || e != api.OK && b != nil || len(b) > 493 {
			t.Error(i, update.Check(r.u), len(b), e)
		}
	}
	if b, _ := update.Raw(api.Update{Gone: ten}); !bytes.Equal(b, []byte{0, 2, 8, 10, 0, 0}) {
		t.Errorf("%x", b)
	}
	a, _ := attrs.Raw(said)
	b, _ := update.Raw(api.Update{Gone: list(t, "0.0.0.0/0", "1.2.3.4/32"), New: list(t, "10.128.0.0/9", "10.129.0.0/16", "10.129.128.0/17"), Attrs: said})
	want := slices.Concat([]byte{0, 6, 0, 32, 1, 2, 3, 4, 0, 14}, a, []byte{9, 10, 128, 16, 10, 129, 17, 10, 129, 128})
	if !bytes.Equal(b, want) {
		t.Errorf("%x", b)
	}
}

// P20.2: the errors of a body, in their order.
func TestParseRefuse(t *testing.T) {
	a, _ := attrs.Raw(said)
	with := func(gone []byte, more ...byte) []byte {
		return slices.Concat([]byte{byte(len(gone) >> 8), byte(len(gone))}, gone, more)
	}
	full := func(gone []byte, new ...byte) []byte {
		return with(gone, slices.Concat([]byte{0, 14}, a, new)...)
	}
	var many, one []byte
	for i := range 120 {
		many = append(many, 32, 0, 0, 0, byte(i))
	}
	one = []byte{8, 10}
	for i, r := range []struct {
		b []byte
		e api.Errno
	}{
		{nil, api.ErrGone},
		{[]byte{0}, api.ErrGone},
		{[]byte{0, 2, 8}, api.ErrGone},
		{with([]byte{33}, 0, 0), api.ErrGone},
		{with([]byte{8}, 0, 0), api.ErrGone},
		{with([]byte{9, 10, 1}, 0, 0), api.ErrGone},
		{with([]byte{255, 1, 1, 1, 1}, 0, 0), api.ErrGone},
		{with(nil), api.ErrSaid},
		{with(one, 0), api.ErrSaid},
		{with(nil, 0, 1), api.ErrSaid},
		{with(nil, 0, 1, 64), api.ErrList},
		{with(nil, 0, 4, 64, 1, 1, 3), api.ErrOrigin},
		{with(nil, 0, 4, 64, 1, 1, 0), api.ErrLack},
		{with(nil, 0, 0, 33), api.ErrNew},
		{full(nil, 8), api.ErrNew},
		{full(nil, 8, 10, 7, 11), api.ErrNew},
		{with([]byte{8, 11, 8, 10}, 0, 0), api.ErrOrder},
		{with([]byte{8, 11, 8, 11}, 0, 0), api.ErrOrder},
		{full(nil, 8, 11, 8, 10), api.ErrOrder},
		{full(one, 8, 10), api.ErrOrder},
		{with(nil, 0, 0, 8, 11, 8, 10), api.ErrOrder},
		{with(nil, 0, 0, 8, 10), api.ErrWhole},
		{full(nil), api.ErrWhole},
		{full(one), api.ErrWhole},
		{with(many, 0, 0), api.ErrLong},
		{full(nil, many...), api.ErrLong},
		{with(many, 0, 0, 8, 10), api.ErrWhole},
		{with(many, 0, 0, 33), api.ErrNew},
		{with(nil, 0, 0), api.OK},
		{with(one, 0, 0), api.OK},
		{full(one, 8, 11), api.OK},
		{full([]byte{0}, many[:470]...), api.OK},
		{full(nil, append([]byte{24, 0, 0, 0}, many[:470]...)...), api.OK}, // 2 and 2 and 14 and 474: 492
		{full([]byte{0}, append([]byte{24, 0, 0, 0}, many[:470]...)...), api.OK},
		{full([]byte{1, 0}, append([]byte{24, 0, 0, 0}, many[:470]...)...), api.ErrLong},
	} {
		u, e := update.Parse(r.b)
		if e != r.e || e != api.OK && !update.Same(u, api.Update{}) {
			t.Error(i, u, e)
		}
	}
}

// P20.2: what is the same.
func TestSame(t *testing.T) {
	u := func() api.Update {
		return api.Update{Gone: hosts(1, 2), New: hosts(5, 2), Attrs: api.Attrs{Next: 9, Tags: []uint32{4}}}
	}
	for i, change := range []func(u *api.Update){
		func(u *api.Update) { u.Gone = u.Gone[:1] }, func(u *api.Update) { u.New[1].Addr++ }, func(u *api.Update) { u.Gone[0].Len-- },
		func(u *api.Update) { u.Attrs.Tags[0]++ }, func(u *api.Update) { u.Gone, u.New = u.New, u.Gone },
	} {
		a, b := u(), u()
		if !update.Same(a, b) {
			t.Error("the same")
		}
		change(&b)
		if update.Same(a, b) || update.Same(b, a) {
			t.Error(i)
		}
	}
	if !update.Same(api.Update{}, api.Update{Gone: []api.Prefix{}, New: []api.Prefix{}}) {
		t.Error("nil and empty")
	}
}

// P20.3: there and back.
func TestThereAndBack(t *testing.T) {
	for n := range uint8(33) {
		p := api.Prefix{Addr: uint32(0xa5c3f00f) &^ uint32(uint64(1)<<(32-n)-1), Len: n}
		if q, e := update.Of(update.Text(p)); q != p || e != api.OK {
			t.Error(p, q, e)
		}
		for _, u := range []api.Update{{}, {Gone: []api.Prefix{p}}, {New: []api.Prefix{p}, Attrs: said}} {
			b, e := update.Raw(u)
			if e != api.OK {
				t.Fatal(p, e)
			}
			if back, e := update.Parse(b); e != api.OK || !update.Same(back, u) {
				t.Error(p, back, e)
			}
		}
	}
}

func FuzzParse(f *testing.F) {
	b, _ := update.Raw(api.Update{Gone: hosts(1, 2), New: hosts(5, 2), Attrs: api.Attrs{Next: 9, Tags: []uint32{4}}})
	f.Add(b)
	f.Fuzz(func(t *testing.T, b []byte) {
		u, e := update.Parse(b)
		if e != api.OK {
			return
		}
		if again, e := update.Raw(u); e != api.OK || !bytes.Equal(again, b) {
			t.Error(again, e)
		}
	})
}
