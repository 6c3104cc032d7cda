package attrs_test

import (
	"bytes"
	"slices"
	"testing"

	"pursuivant/api"
	"pursuivant/attrs"
)

func row(as ...uint32) api.Leg { return api.Leg{As: as} }

func set(as ...uint32) api.Leg { return api.Leg{Set: true, As: as} }

func rising(n int) []uint32 {
	l := make([]uint32, n)
	for i := range l {
		l[i] = uint32(i*3 + 1)
	}
	return l
}

func said(path ...api.Leg) api.Attrs { return api.Attrs{Origin: 1, Path: path, Next: 9} }

func full() api.Attrs {
	return api.Attrs{Origin: 2, Path: []api.Leg{row(7, 0x01020304, 7), set(3, 5)}, Next: 0x0a0b0c0d, HasMed: true, Med: 0x11121314, HasPref: true, Pref: 200, Tags: []uint32{0, 6, 1<<32 - 1}}
}

// P19.1: what may be said.
func TestCheck(t *testing.T) {
	for i, r := range []struct {
		change func(a *api.Attrs)
		e      api.Errno
	}{
		{func(a *api.Attrs) {}, api.OK},
		{func(a *api.Attrs) { a.Origin = 3 }, api.ErrArg},
		{func(a *api.Attrs) { a.Origin = 0 }, api.OK},
		{func(a *api.Attrs) { a.Path = nil }, api.OK},
		{func(a *api.Attrs) { a.Path = slices.Repeat([]api.Leg{row(1)}, 8) }, api.OK},
		{func(a *api.Attrs) { a.Path = slices.Repeat([]api.Leg{row(1)}, 9) }, api.ErrArg},
		{func(a *api.Attrs) { a.Path = []api.Leg{row()} }, api.ErrArg},
		{func(a *api.Attrs) { a.Path = []api.Leg{set()} }, api.ErrArg},
		{func(a *api.Attrs) { a.Path = []api.Leg{row(rising(32)...)} }, api.OK},
		{func(a *api.Attrs) { a.Path = []api.Leg{row(rising(33)...)} }, api.ErrArg},
		{func(a *api.Attrs) { a.Path = []api.Leg{set(rising(33)...)} }, api.ErrArg},
		{func(a *api.Attrs) { a.Path = []api.Leg{row(1, 0)} }, api.ErrArg},
		{func(a *api.Attrs) { a.Path = []api.Leg{set(0, 1)} }, api.ErrArg},
		{func(a *api.Attrs) { a.Path = []api.Leg{row(2, 1, 1)} }, api.OK},
		{func(a *api.Attrs) { a.Path = []api.Leg{set(2, 1)} }, api.ErrArg},
		{func(a *api.Attrs) { a.Path = []api.Leg{set(1, 1)} }, api.ErrArg},
		{func(a *api.Attrs) { a.Next = 0 }, api.ErrArg},
		{func(a *api.Attrs) { a.HasMed = false }, api.ErrArg},
		{func(a *api.Attrs) { a.HasMed, a.Med = false, 0 }, api.OK},
		{func(a *api.Attrs) { a.Med = 0 }, api.OK},
		{func(a *api.Attrs) { a.HasPref = false }, api.ErrArg},
		{func(a *api.Attrs) { a.HasPref, a.Pref = false, 0 }, api.OK},
		{func(a *api.Attrs) { a.Tags = rising(16) }, api.OK},
		{func(a *api.Attrs) { a.Tags = rising(17) }, api.ErrArg},
		{func(a *api.Attrs) { a.Tags = []uint32{1, 1} }, api.ErrArg},
		{func(a *api.Attrs) { a.Tags = []uint32{2, 1} }, api.ErrArg},
	} {
		a := full()
		r.change(&a)
		b, e := attrs.Raw(a)
		if attrs.Check(a) != r.e || e != r.e || e != api.OK && b != nil {
			t.Error(i, attrs.Check(a), b, e)
		}
		_, e = attrs.Prepend(a, 3, 0)
		_, f := attrs.Tag(a, 6)
		if i != 22 && (e != r.e || f != r.e) { // sixteen tags take no seventeenth
			t.Error(i, e, f)
		}
	}
}

// P19.1: bytes, attribute by attribute.
func TestRaw(t *testing.T) {
	b, e := attrs.Raw(api.Attrs{Next: 9})
	if e != api.OK || !bytes.Equal(b, []byte{0x40, 1, 1, 0, 0x40, 2, 0, 0x40, 3, 4, 0, 0, 0, 9}) {
		t.Errorf("%x %v", b, e)
	}
	b, _ = attrs.Raw(full())
	want := []byte{
		0x40, 1, 1, 2,
		0x40, 2, 24, 2, 3, 0, 0, 0, 7, 1, 2, 3, 4, 0, 0, 0, 7, 1, 2, 0, 0, 0, 3, 0, 0, 0, 5,
		0x40, 3, 4, 10, 11, 12, 13,
		0x80, 4, 4, 0x11, 0x12, 0x13, 0x14,
		0x40, 5, 4, 0, 0, 0, 200,
		0xc0, 8, 12, 0, 0, 0, 0, 0, 0, 0, 6, 255, 255, 255, 255,
	}
	if !bytes.Equal(b, want) {
		t.Errorf("%x", b)
	}
	// 63 systems: 2 and 2 and 252 bytes are 256; 62 are 252.
	wide := said(row(rising(32)...), row(rising(31)...))
	if b, _ := attrs.Raw(wide); !bytes.Equal(b[4:10], []byte{0x50, 2, 1, 0, 2, 32}) {
		t.Errorf("%x", b)
	}
	wide.Path[1].As = wide.Path[1].As[:30]
	if b, _ := attrs.Raw(wide); !bytes.Equal(b[4:9], []byte{0x40, 2, 252, 2, 32}) {
		t.Errorf("%x", b)
	}
}

// P19.1: the errors of bytes, attribute by attribute, in their order.
func TestParseRefuse(t *testing.T) {
	origin, path, next := []byte{0x40, 1, 1, 0}, []byte{0x40, 2, 0}, []byte{0x40, 3, 4, 0, 0, 0, 9}
	ahead := slices.Concat(origin, path, next)
	behind := func(b ...byte) []byte { return slices.Concat(ahead, b) }
	legs := func(b ...byte) []byte { return slices.Concat(origin, []byte{0x40, 2, byte(len(b))}, b, next) }
	wide := func(n int, flags byte) []byte {
		return slices.Concat(origin, []byte{flags, 2, byte(n >> 8), byte(n)}, make([]byte, n), next)
	}
	long := slices.Repeat([]byte{2, 1, 0, 0, 0, 1}, 8)
	for i, r := range []struct {
		b []byte
		e api.Errno
	}{
		{nil, api.ErrLack},
		{[]byte{0x40}, api.ErrList},
		{[]byte{0x99, 7}, api.ErrList},
		{[]byte{0x40, 1, 1}, api.ErrList},
		{[]byte{0x99, 77, 1}, api.ErrList},
		{[]byte{0x50, 1, 0}, api.ErrList},
		{[]byte{0x50, 1, 1, 0}, api.ErrList},
		{[]byte{0x50, 77, 0, 0}, api.ErrCode},
		{[]byte{0x40, 0, 0}, api.ErrCode},
		{[]byte{0x40, 6, 0}, api.ErrCode},
		{[]byte{0x00, 7, 0}, api.ErrCode},
		{[]byte{0x50, 1, 0, 1, 0}, api.ErrFlags},
		{[]byte{0xc0, 1, 1, 0}, api.ErrFlags},
		{[]byte{0x41, 1, 1, 0}, api.ErrFlags},
		{[]byte{0x00, 1, 2, 0, 0}, api.ErrFlags},
		{behind(0x40, 4, 4, 0, 0, 0, 0), api.ErrFlags},
		{behind(0x40, 8, 4, 0, 0, 0, 0), api.ErrFlags},
		{wide(255, 0x50), api.ErrFlags},
		{wide(256, 0x50), api.ErrPath},
		{behind(origin...), api.ErrRise},
		{behind(0x40, 3, 1, 0), api.ErrRise},
		{slices.Concat(path, origin), api.ErrRise},
		{[]byte{0x40, 1, 0}, api.ErrBytes},
		{[]byte{0x40, 1, 2, 9, 9}, api.ErrBytes},
		{[]byte{0x40, 1, 1, 3}, api.ErrOrigin},
		{legs(2), api.ErrBytes},
		{legs(2, 1, 0, 0, 0), api.ErrBytes},
		{legs(9, 0, 2, 2, 0, 0, 0, 0), api.ErrBytes},
		{legs(2, 1, 0, 0, 0, 1, 1), api.ErrBytes},
		{legs(0, 1, 0, 0, 0, 1), api.ErrPath},
		{legs(3, 1, 0, 0, 0, 1), api.ErrPath},
		{legs(2, 0), api.ErrPath},
		{legs(1, 0), api.ErrPath},
		{legs(2, 1, 0, 0, 0, 0), api.ErrPath},
		{legs(1, 2, 0, 0, 0, 2, 0, 0, 0, 1), api.ErrPath},
		{legs(append(long, 2, 1, 0, 0, 0, 1)...), api.ErrPath},
		{slices.Concat(origin, []byte{0x40, 2, 134, 2, 33}, bytes.Repeat([]byte{1}, 132)), api.ErrPath},
		{[]byte{0x40, 3, 3, 0, 0, 0}, api.ErrBytes},
		{[]byte{0x40, 3, 5, 0, 0, 0, 0, 0}, api.ErrBytes},
		{[]byte{0x40, 3, 4, 0, 0, 0, 0}, api.ErrNext},
		{behind(0x80, 4, 3, 0, 0, 0), api.ErrBytes},
		{behind(0x40, 5, 5, 0, 0, 0, 0, 0), api.ErrBytes},
		{behind(0xc0, 8, 0), api.ErrBytes},
		{behind(0xc0, 8, 3, 0, 0, 0), api.ErrBytes},
		{behind(0xc0, 8, 5, 0, 0, 0, 0, 0), api.ErrBytes},
		{behind(0xc0, 8, 8, 0, 0, 0, 1, 0, 0, 0, 1), api.ErrTags},
		{behind(0xc0, 8, 8, 0, 0, 0, 2, 0, 0, 0, 1), api.ErrTags},
		{behind(append([]byte{0xc0, 8, 68}, tagBytes(17)...)...), api.ErrTags},
		{behind(append([]byte{0xc0, 8, 64}, tagBytes(16)...)...), api.OK},
		{origin, api.ErrLack},
		{slices.Concat(origin, next), api.ErrLack},
		{slices.Concat(path, next), api.ErrLack},
		{slices.Concat(origin, path), api.ErrLack},
		{behind(0x80, 4, 4, 0, 0, 0, 0), api.OK},
		{behind(0x40, 5, 4, 0, 0, 0, 0), api.OK},
		{legs(long...), api.OK},
		{ahead, api.OK},
	} {
		a, e := attrs.Parse(r.b)
		if e != r.e || e != api.OK && !attrs.Same(a, api.Attrs{}) {
			t.Errorf("%d: %x: %v %v", i, r.b, a, e)
		}
	}
}

func tagBytes(n int) []byte {
	var b []byte
	for i := range n {
		b = append(b, 0, 0, 0, byte(i))
	}
	return b
}

// P19.2: lengths, first systems, systems.
func TestPath(t *testing.T) {
	if attrs.Length(row(1, 2), set(3, 4)) != 3 || attrs.Length() != 0 || attrs.Length(row(), set()) != 1 || attrs.Length(set(1, 2, 3), row(5, 5)) != 3 {
		t.Error("Length")
	}
	for _, r := range []struct {
		a     api.Attrs
		first uint32
	}{{said(), 0}, {said(set(3, 4), row(5)), 0}, {said(row(5, 6), set(3)), 5}, {said(row(), row(4)), 0}} {
		if f := attrs.First(r.a); f != r.first {
			t.Error(r, f)
		}
	}
	a := full()
	for _, as := range []uint32{7, 0x01020304, 3, 5} {
		if !attrs.Has(a, as) {
			t.Error(as)
		}
	}
	if attrs.Has(a, 4) || attrs.Has(a, 0) || attrs.Has(api.Attrs{}, 0) {
		t.Error("Has")
	}
	all := attrs.Systems(a)
	a.Path[0].As[0] = 99 // what was handed in is not kept
	a.Path[1].Set = false
	for range 2 {
		var parts []int
		var as []uint32
		for i, s := range all {
			parts, as = append(parts, i), append(as, s)
		}
		if !slices.Equal(parts, []int{0, 0, 0, 1, 1}) || !slices.Equal(as, []uint32{7, 0x01020304, 7, 3, 5}) {
			t.Error(parts, as)
		}
		for range all {
			break
		}
	}
}

// P19.3: what is put ahead of a path.
func TestPrepend(t *testing.T) {
	eight := slices.Repeat([]api.Leg{set(1)}, 8)
	for i, r := range []struct {
		a    api.Attrs
		as   uint32
		n    int
		path []api.Leg
		e    api.Errno
	}{
		{said(), 5, 2, []api.Leg{row(5, 5)}, api.OK},
		{said(row(1, 2)), 5, 1, []api.Leg{row(5, 1, 2)}, api.OK},
		{said(set(1, 2), row(3)), 5, 3, []api.Leg{row(5, 5, 5), set(1, 2), row(3)}, api.OK},
		{said(row(1)), 5, 0, []api.Leg{row(1)}, api.OK},
		{said(row(rising(24)...)), 5, 8, []api.Leg{row(append(slices.Repeat([]uint32{5}, 8), rising(24)...)...)}, api.OK},
		{said(row(rising(25)...)), 5, 8, nil, api.ErrLong},
		{said(row(rising(32)...)), 5, 1, nil, api.ErrLong},
		{said(row(rising(32)...)), 5, 0, []api.Leg{row(rising(32)...)}, api.OK},
		{said(eight...), 5, 1, nil, api.ErrLong},
		{said(eight[:7]...), 5, 1, append([]api.Leg{row(5)}, eight[:7]...), api.OK},
		{said(), 0, 1, nil, api.ErrArg},
		{said(), 0, 0, nil, api.ErrArg},
		{said(), 5, -1, nil, api.ErrArg},
		{said(), 5, 9, nil, api.ErrArg},
		{said(eight...), 5, 9, nil, api.ErrArg},
		{said(row()), 5, 1, nil, api.ErrArg},
	} {
		given := attrs.Copy(r.a)
		b, e := attrs.Prepend(r.a, r.as, r.n)
		want := api.Attrs{}
		if r.e == api.OK {
			want = said(r.path...)
		}
		if e != r.e || !attrs.Same(b, want) || !attrs.Same(given, r.a) {
			t.Error(i, b, e)
		}
	}
	a := said(row(1, 2))
	b, _ := attrs.Prepend(a, 5, 0)
	b.Path[0].As[0] = 9
	if a.Path[0].As[0] != 1 {
		t.Error("an answer shares memory with what was handed in")
	}
}

// P19.3: tags.
func TestTag(t *testing.T) {
	for i, r := range []struct {
		tags []uint32
		tag  uint32
		want []uint32
		e    api.Errno
	}{
		{nil, 0, []uint32{0}, api.OK},
		{[]uint32{3, 9}, 5, []uint32{3, 5, 9}, api.OK},
		{[]uint32{3, 9}, 1, []uint32{1, 3, 9}, api.OK},
		{[]uint32{3, 9}, 1<<32 - 1, []uint32{3, 9, 1<<32 - 1}, api.OK},
		{[]uint32{3, 9}, 9, []uint32{3, 9}, api.OK},
		{rising(15), 2, append([]uint32{1, 2}, rising(15)[1:]...), api.OK},
		{rising(16), 2, nil, api.ErrLong},
		{rising(16), 4, rising(16), api.OK},
		{rising(17), 4, nil, api.ErrArg},
	} {
		a := said(row(4))
		a.Tags = slices.Grow(slices.Clone(r.tags), 4)
		spare := a.Tags[:cap(a.Tags)]
		given := slices.Clone(spare)
		b, e := attrs.Tag(a, r.tag)
		if e != r.e || !slices.Equal(b.Tags, r.want) || e == api.OK && attrs.Length(b.Path...) != 1 || e != api.OK && !attrs.Same(b, api.Attrs{}) {
			t.Error(i, b, e)
		}
		if !slices.Equal(spare, given) {
			t.Error(i, "spare room is changed")
		}
	}
}

// P19.3: copies, and what is the same.
func TestCopySame(t *testing.T) {
	for i, change := range []func(a *api.Attrs){
		func(a *api.Attrs) { a.Origin = 1 }, func(a *api.Attrs) { a.Next++ }, func(a *api.Attrs) { a.HasMed = false },
		func(a *api.Attrs) { a.Med++ }, func(a *api.Attrs) { a.HasPref = false }, func(a *api.Attrs) { a.Pref++ },
		func(a *api.Attrs) { a.Tags[1]++ }, func(a *api.Attrs) { a.Tags = a.Tags[:2] }, func(a *api.Attrs) { a.Path[1].Set = false },
		func(a *api.Attrs) { a.Path[0].As[1]++ }, func(a *api.Attrs) { a.Path = a.Path[:1] }, func(a *api.Attrs) { a.Path[0].As = a.Path[0].As[:2] },
	} {
		a := full()
		b := attrs.Copy(a)
		if !attrs.Same(a, b) {
			t.Error("a copy")
		}
		change(&b)
		if attrs.Same(a, b) || attrs.Same(b, a) || !attrs.Same(a, full()) {
			t.Error(i)
		}
	}
	if !attrs.Same(api.Attrs{}, api.Attrs{Path: []api.Leg{}, Tags: []uint32{}}) || !attrs.Same(said(row()), said(api.Leg{As: []uint32{}})) {
		t.Error("nil and empty")
	}
}

// P19.4: there and back; Prepend makes longer; Tag makes nothing else another.
func TestFollows(t *testing.T) {
	l := []api.Attrs{full(), said(), said(set(1)), said(row(rising(32)...), row(rising(31)...), set(rising(32)...)), {Next: 1, Tags: rising(16)}}
	for i, a := range l {
		b, e := attrs.Raw(a)
		if e != api.OK {
			t.Fatal(e)
		}
		back, e := attrs.Parse(b)
		if e != api.OK || !attrs.Same(back, a) {
			t.Error(i, back, e)
		}
		for n := range 9 {
			c, e := attrs.Prepend(a, 77, n)
			if e == api.ErrLong {
				continue
			}
			if e != api.OK || attrs.Length(c.Path...) != attrs.Length(a.Path...)+n || n > 0 && attrs.First(c) != 77 {
				t.Error(i, n, c, e)
			}
		}
		c, e := attrs.Tag(a, 12345)
		if e == api.OK {
			if !slices.Contains(c.Tags, 12345) || attrs.Check(c) != api.OK {
				t.Error(i, c)
			}
			c.Tags = a.Tags
			if !attrs.Same(a, c) {
				t.Error(i, c)
			}
		}
	}
}

func FuzzParse(f *testing.F) {
	for _, a := range []api.Attrs{full(), said(row(rising(32)...), row(rising(31)...))} {
		b, _ := attrs.Raw(a)
		f.Add(b)
	}
	f.Fuzz(func(t *testing.T, b []byte) {
		a, e := attrs.Parse(b)
		if e != api.OK {
			return
		}
		if again, e := attrs.Raw(a); e != api.OK || !bytes.Equal(again, b) {
			t.Error(again, e)
		}
	})
}
