package open_test

import (
	"bytes"
	"slices"
	"testing"

	"pursuivant/api"
	"pursuivant/open"
)

func body(n int) []byte {
	b := make([]byte, n)
	for i := range b {
		b[i] = byte(i*7 + 1)
	}
	return b
}

func caps(l ...int) []api.Cap {
	var out []api.Cap
	for i := 0; i < len(l); i += 2 {
		out = append(out, api.Cap{Code: uint8(l[i]), Body: body(l[i+1])})
	}
	return out
}

func opening(l ...int) api.Open {
	return api.Open{As: 0x01020304, Hold: 0x0506, Id: 0x0708090a, Caps: caps(l...)}
}

// P18.1: which openings may be, and their bodies.
func TestCheckRaw(t *testing.T) {
	with := func(change func(o *api.Open)) api.Open {
		o := opening(1, 0, 64, 3, 66, 1)
		change(&o)
		return o
	}
	for i, r := range []struct {
		o api.Open
		e api.Errno
	}{
		{with(func(o *api.Open) {}), api.OK},
		{with(func(o *api.Open) { o.As = 0 }), api.ErrArg},
		{with(func(o *api.Open) { o.As = 1<<32 - 1 }), api.OK},
		{with(func(o *api.Open) { o.Id = 0 }), api.ErrArg},
		{with(func(o *api.Open) { o.Hold = 0 }), api.OK},
		{with(func(o *api.Open) { o.Hold = 1 }), api.ErrArg},
		{with(func(o *api.Open) { o.Hold = 2 }), api.ErrArg},
		{with(func(o *api.Open) { o.Hold = 3 }), api.OK},
		{opening(0, 1), api.ErrArg},
		{opening(65, 1), api.ErrArg},
		{opening(255, 100), api.OK},
		{opening(255, 101), api.ErrArg},
		{opening(3, 1, 3, 1), api.ErrArg},
		{opening(3, 1, 2, 1), api.ErrArg},
		{opening(1, 0, 2, 0, 3, 0, 4, 0, 5, 0, 6, 0, 7, 0, 8, 0), api.OK},
		{opening(1, 0, 2, 0, 3, 0, 4, 0, 5, 0, 6, 0, 7, 0, 8, 0, 9, 0), api.ErrArg},
		{opening(1, 100, 2, 100, 3, 41), api.OK}, // 2 and 6 and 102 and 102 and 43: 255
		{opening(1, 100, 2, 100, 3, 42), api.ErrLong},
		{opening(1, 100, 2, 100, 2, 100), api.ErrArg},
	} {
		b, e := open.Raw(r.o)
		if open.Check(r.o) != r.e || e != r.e || e != api.OK && b != nil {
			t.Error(i, open.Check(r.o), b, e)
		}
	}
	b, _ := open.Raw(api.Open{As: 1, Hold: 3, Id: 9})
	if !bytes.Equal(b, []byte{4, 0, 1, 0, 3, 0, 0, 0, 9, 8, 2, 6, 0x41, 4, 0, 0, 0, 1}) {
		t.Errorf("%x", b)
	}
	b, _ = open.Raw(opening(3, 2))
	if !bytes.Equal(b, []byte{4, 0x5b, 0xa0, 5, 6, 7, 8, 9, 10, 12, 2, 10, 0x41, 4, 1, 2, 3, 4, 3, 2, 1, 8}) {
		t.Errorf("%x", b)
	}
	b, _ = open.Raw(api.Open{As: 65535, Id: 1})
	if b[1] != 255 || b[2] != 255 {
		t.Errorf("%x", b)
	}
	b, _ = open.Raw(api.Open{As: 65536, Id: 1})
	if b[1] != 0x5b || b[2] != 0xa0 {
		t.Errorf("%x", b)
	}
}

// P18.1: the errors of a body, in their order.
func TestParseRefuse(t *testing.T) {
	// laid is a body with these capabilities' bytes.
	laid := func(caps ...byte) []byte {
		b := append([]byte{4, 0, 7, 0, 9, 0, 0, 0, 1, byte(2 + len(caps)), 2, byte(len(caps))}, caps...)
		return b
	}
	as := []byte{65, 4, 0, 0, 0, 7}
	with := func(caps ...byte) []byte { return laid(append(slices.Clone(as), caps...)...) }
	changed := func(at int, to byte) []byte {
		b := with()
		b[at] = to
		return b
	}
	long := with(append([]byte{9, 101}, body(101)...)...)
	for i, r := range []struct {
		b []byte
		e api.Errno
	}{
		{nil, api.ErrBody},
		{with()[:9], api.ErrBody},
		{make([]byte, 9), api.ErrBody},
		{make([]byte, 10), api.ErrVersion},
		{changed(0, 3), api.ErrVersion},
		{[]byte{4, 0, 7, 0, 1, 0, 0, 0, 0, 0}, api.ErrHold},
		{changed(4, 2), api.ErrHold},
		{changed(8, 0), api.ErrId},
		{with()[:10], api.ErrParams},
		{with()[:17], api.ErrParams},
		{append(with(), 0), api.ErrParams},
		{[]byte{4, 0, 7, 0, 9, 0, 0, 0, 1, 0}, api.ErrParams},
		{[]byte{4, 0, 7, 0, 9, 0, 0, 0, 1, 1, 2}, api.ErrParams},
		{changed(9, 7), api.ErrParams},
		{changed(10, 1), api.ErrParams},
		{changed(11, 5), api.ErrParams},
		{laid(65, 5, 0, 0, 0, 7), api.ErrParams},
		{with(9), api.ErrParams},
		{with(9, 1), api.ErrParams},
		{with(0, 0), api.ErrParams},
		{laid(0, 4, 0, 0, 0, 7), api.ErrParams},
		{with(65, 0), api.ErrParams},
		{with(3, 0, 3, 0), api.ErrParams},
		{with(3, 0, 2, 0), api.ErrParams},
		{long, api.ErrParams},
		{laid(append([]byte{65, 101}, body(101)...)...), api.ErrParams},
		{with(1, 0, 2, 0, 3, 0, 4, 0, 5, 0, 6, 0, 7, 0, 8, 0, 9, 0), api.ErrParams},
		{laid(), api.ErrAs},
		{laid(64, 4, 0, 0, 0, 7), api.ErrAs},
		{laid(65, 3, 0, 0, 7), api.ErrAs},
		{laid(65, 5, 0, 0, 0, 7, 0), api.ErrAs},
		{laid(65, 4, 0, 0, 0, 0), api.ErrAs},
		{laid(65, 4, 0, 0, 0, 8), api.ErrAs},
		{laid(65, 4, 0, 1, 0, 7), api.ErrAs},
		{laid(66, 0, 65, 4, 0, 0, 0, 7), api.ErrParams},
		{with(), api.OK},
		{with(1, 0), api.OK},
		{with(1, 0, 2, 0, 3, 0, 4, 0, 5, 0, 6, 0, 7, 0, 255, 2, 9, 9), api.OK},
	} {
		o, e := open.Parse(r.b)
		if e != r.e || e != api.OK && !open.Same(o, api.Open{}) {
			t.Error(i, o, e)
		}
	}
}

// P18.2: what two make of their openings.
func TestMeet(t *testing.T) {
	for _, r := range []struct{ a, b, want uint16 }{{0, 90, 0}, {30, 90, 30}, {90, 30, 30}, {0, 0, 0}, {3, 65535, 3}} {
		a, b := opening(), opening()
		a.Hold, b.Hold = r.a, r.b
		b.As++
		if s, e := open.Meet(a, b); e != api.OK || s.Hold != r.want || s.Inner || len(s.Caps) != 0 {
			t.Error(r, s, e)
		}
	}
	a, b := opening(1, 0, 3, 2, 70, 1, 200, 0), opening(2, 0, 3, 9, 71, 1, 200, 0)
	if s, e := open.Meet(a, b); e != api.OK || !s.Inner || !slices.Equal(s.Caps, []uint8{3, 200}) {
		t.Error(s, e)
	}
	wrong, long := opening(65, 0), opening(1, 100, 2, 100, 3, 42)
	for i, r := range []struct {
		a, b api.Open
		e    api.Errno
	}{{wrong, a, api.ErrArg}, {a, wrong, api.ErrArg}, {long, wrong, api.ErrArg}, {wrong, long, api.ErrArg}, {long, a, api.ErrLong}, {a, long, api.ErrLong}} {
		if s, e := open.Meet(r.a, r.b); e != r.e || s.Hold != 0 || s.Inner || s.Caps != nil {
			t.Error(i, s, e)
		}
	}
}

// P18.2: capabilities, and what is the same.
func TestCapSame(t *testing.T) {
	o := opening(1, 0, 3, 2)
	if b, is := open.Cap(o, 3); !is || !bytes.Equal(b, body(2)) {
		t.Error(b, is)
	}
	b, _ := open.Cap(o, 3)
	b[0]++
	if !open.Same(o, opening(1, 0, 3, 2)) {
		t.Error("Cap shares memory")
	}
	if b, is := open.Cap(o, 1); !is || len(b) != 0 {
		t.Error(b, is)
	}
	for _, code := range []uint8{0, 2, 65} {
		if b, is := open.Cap(o, code); is || b != nil {
			t.Error(code, b, is)
		}
	}
	for i, change := range []func(o *api.Open){
		func(o *api.Open) { o.As++ }, func(o *api.Open) { o.Hold++ }, func(o *api.Open) { o.Id++ },
		func(o *api.Open) { o.Caps[0].Code++ }, func(o *api.Open) { o.Caps[1].Body[1]++ }, func(o *api.Open) { o.Caps = o.Caps[:1] },
	} {
		p := opening(1, 0, 3, 2)
		change(&p)
		if open.Same(o, p) || open.Same(p, o) {
			t.Error(i)
		}
	}
	if !open.Same(api.Open{}, api.Open{Caps: []api.Cap{}}) || !open.Same(opening(1, 0), api.Open{As: o.As, Hold: o.Hold, Id: o.Id, Caps: []api.Cap{{Code: 1}}}) {
		t.Error("nil and empty")
	}
}

// P18.3: there and back; Meet does not hang on the order.
func TestFollows(t *testing.T) {
	l := []api.Open{
		{As: 1, Hold: 3, Id: 9}, {As: 23456, Id: 1}, {As: 65535, Id: 1}, {As: 65536, Hold: 65535, Id: 1<<32 - 1},
		opening(1, 0, 3, 2, 200, 100), opening(1, 100, 2, 100, 3, 41), opening(3, 0, 64, 0, 66, 0), opening(64, 5),
	}
	for i, a := range l {
		b, e := open.Raw(a)
		if e != api.OK {
			t.Fatal(e)
		}
		back, e := open.Parse(b)
		if e != api.OK || !open.Same(back, a) {
			t.Error(i, back, e)
		}
		b[len(b)-1]++
		if !open.Same(back, a) {
			t.Error("an answer shares memory with what was handed in")
		}
		if s, e := open.Meet(a, a); e != api.OK || s.Hold != a.Hold || !s.Inner || len(s.Caps) != len(a.Caps) {
			t.Error(i, s, e)
		}
		for _, c := range l {
			x, _ := open.Meet(a, c)
			y, _ := open.Meet(c, a)
			if x.Hold != y.Hold || x.Inner != y.Inner || !slices.Equal(x.Caps, y.Caps) {
				t.Error(x, y)
			}
		}
	}
}

func FuzzParse(f *testing.F) {
	b, _ := open.Raw(opening(1, 0, 3, 2))
	f.Add(b)
	f.Fuzz(func(t *testing.T, b []byte) {
		o, e := open.Parse(b)
		if e != api.OK {
			return
		}
		if again, e := open.Raw(o); e != api.OK || !bytes.Equal(again, b) {
			t.Error(again, e)
		}
	})
}
