package tcp_test

import (
	"bytes"
	"slices"
	"testing"

	"pursuivant/api"
	"pursuivant/tcp"
)

func body(n int) []byte {
	b := make([]byte, n)
	for i := range b {
		b[i] = byte(i*5 + 9)
	}
	return b
}

func option(kind uint8, n int) api.Option { return api.Option{Kind: kind, Body: body(n)} }

func header(l ...api.Option) api.Header {
	return api.Header{FromPort: 0x0102, ToPort: 0x0304, Seq: 0x05060708, Ack: 0x090a0b0c, Flags: api.Syn | api.Ack, Window: 0x0d0e, Sum: 0x0f10, Options: l}
}

var auth = api.Auth{Key: 3, Next: 250, Tag: [12]byte{1, 2, 3, 4, 5, 6, 7, 8, 9, 10, 11, 12}}

// P8.1: a header's bytes, part by part.
func TestRaw(t *testing.T) {
	b, e := tcp.Raw(header(api.Option{Kind: 1}, option(2, 2), option(200, 0)))
	want := []byte{1, 2, 3, 4, 5, 6, 7, 8, 9, 10, 11, 12, 0x70, 0x12, 13, 14, 15, 16, 0, 0, 1, 2, 4, 9, 14, 200, 2, 0}
	if e != api.OK || !bytes.Equal(b, want) {
		t.Errorf("%x %v", b, e)
	}
	for flags, bits := range map[api.Flags]byte{0: 0, api.Fin: 1, api.Syn: 2, api.Rst: 4, api.Ack: 16, 15: 23} {
		b, e := tcp.Raw(api.Header{Flags: flags})
		if e != api.OK || len(b) != 20 || b[12] != 0x50 || b[13] != bits {
			t.Error(flags, b, e)
		}
	}
}

// P8.1: what may not be, at its bounds and one past them.
func TestRawSizeRefuse(t *testing.T) {
	many := slices.Repeat([]api.Option{{Kind: 1}}, 41)
	for _, r := range []struct {
		h    api.Header
		size int
		e    api.Errno
	}{
		{header(), 20, api.OK},
		{header(tcp.Greatest(9), tcp.Auth(auth)), 40, api.OK},
		{header(option(0, 0)), 0, api.ErrArg},
		{header(option(1, 1)), 0, api.ErrArg},
		{header(option(2, 38)), 60, api.OK},
		{header(option(2, 39)), 0, api.ErrArg},
		{header(option(255, 37), api.Option{Kind: 1}), 60, api.OK},
		{header(option(2, 38), api.Option{Kind: 1}), 0, api.ErrLong},
		{header(option(2, 38), option(7, 20)), 0, api.ErrLong},
		{header(option(2, 38), option(7, 20), option(0, 0)), 0, api.ErrArg},
		{header(many[:40]...), 60, api.OK},
		{header(many...), 0, api.ErrLong},
		{api.Header{Flags: 15}, 20, api.OK},
		{api.Header{Flags: 16}, 0, api.ErrArg},
		{api.Header{Flags: -1}, 0, api.ErrArg},
		{api.Header{Flags: 16, Options: many}, 0, api.ErrArg},
	} {
		n, e := tcp.Size(r.h)
		b, f := tcp.Raw(r.h)
		if n != r.size || e != r.e || len(b) != r.size || f != r.e {
			t.Error(r.size, r.e, n, e, len(b), f)
		}
	}
}

// P8.1: the errors of bytes, in their order.
func TestParseRefuse(t *testing.T) {
	with := func(options []byte, change func(b []byte)) []byte {
		b, _ := tcp.Raw(header())
		b[12] = byte(5+len(options)/4) << 4
		b = append(b, options...)
		if change != nil {
			change(b)
		}
		return b
	}
	for i, r := range []struct {
		b []byte
		e api.Errno
	}{
		{nil, api.ErrShort},
		{make([]byte, 19), api.ErrShort},
		{make([]byte, 20), api.ErrWords},
		{with(nil, func(b []byte) { b[12] = 0x40 }), api.ErrWords},
		{with(nil, func(b []byte) { b[12] = 0x60 }), api.ErrShort},
		{with(nil, func(b []byte) { b[12] = 0x61 }), api.ErrShort},
		{with(nil, func(b []byte) { b[12] |= 1 }), api.ErrBits},
		{with(nil, func(b []byte) { b[13] |= 8 }), api.ErrBits},
		{with(nil, func(b []byte) { b[13] |= 32 }), api.ErrBits},
		{with(nil, func(b []byte) { b[13] |= 128 }), api.ErrBits},
		{with(nil, func(b []byte) { b[18] = 1 }), api.ErrBits},
		{with([]byte{9, 1, 0, 0}, func(b []byte) { b[19] = 1 }), api.ErrBits},
		{with([]byte{1, 1, 1, 9}, nil), api.ErrOption},
		{with([]byte{9, 0, 0, 0}, nil), api.ErrOption},
		{with([]byte{9, 1, 0, 0}, nil), api.ErrOption},
		{with([]byte{9, 5, 0, 0}, nil), api.ErrOption},
		{with([]byte{1, 0, 0, 1}, nil), api.ErrOption},
		{with([]byte{0, 0, 0, 0}, nil), api.ErrOption},
		{with([]byte{1, 1, 1, 1, 0, 0, 0, 0}, nil), api.ErrOption},
		{with([]byte{9, 255, 0, 0}, nil), api.ErrOption},
		{with([]byte{1, 0, 0, 0}, nil), api.OK},
		{with([]byte{9, 4, 0, 0}, nil), api.OK},
		{with([]byte{9, 2, 9, 2}, nil), api.OK},
	} {
		h, n, e := tcp.Parse(r.b)
		if e != r.e || e != api.OK && (n != 0 || !tcp.Same(h, api.Header{})) || e == api.OK && n != len(r.b) {
			t.Error(i, h, n, e)
		}
	}
}

// P8.2: options of an Auth and of a greatest size.
func TestAuthGreatest(t *testing.T) {
	o := tcp.Auth(auth)
	if o.Kind != 29 || !bytes.Equal(o.Body, []byte{3, 250, 1, 2, 3, 4, 5, 6, 7, 8, 9, 10, 11, 12}) {
		t.Error(o)
	}
	for i, r := range []struct {
		h   api.Header
		has bool
		e   api.Errno
	}{
		{header(), false, api.OK},
		{header(tcp.Greatest(3), o), true, api.OK},
		{header(o, o), false, api.ErrAuth},
		{header(option(29, 13)), false, api.ErrAuth},
		{header(option(29, 15)), false, api.ErrAuth},
		{header(o, option(29, 0)), false, api.ErrAuth},
		{header(option(28, 14)), false, api.OK},
	} {
		a, has, e := tcp.AuthOf(r.h)
		if has != r.has || e != r.e || has && a != auth || !has && a != (api.Auth{}) {
			t.Error(i, a, has, e)
		}
	}
	if g := tcp.Greatest(0x1234); g.Kind != 2 || !bytes.Equal(g.Body, []byte{0x12, 0x34}) {
		t.Error(g)
	}
	if n, has := tcp.GreatestOf(header(option(2, 3), option(3, 2), tcp.Greatest(700), tcp.Greatest(8))); n != 700 || !has {
		t.Error(n, has)
	}
	if n, has := tcp.GreatestOf(header(option(2, 1), option(3, 2))); n != 0 || has {
		t.Error(n, has)
	}
}

// P8.3: options of a kind, in order, of memory of their own; what is the same.
func TestOptionsSame(t *testing.T) {
	h := header(option(5, 3), option(6, 1), option(5, 0), option(5, 2))
	all := tcp.Options(h, 5)
	h.Options[0].Body[0] ^= 1 // what was handed in is not kept
	h.Options[3].Kind = 7
	for range 2 {
		var places, sizes []int
		for at, b := range all {
			places, sizes = append(places, at), append(sizes, len(b))
			if at == 0 && !bytes.Equal(b, body(3)) {
				t.Error(b)
			}
			if len(b) > 0 {
				b[0] ^= 255
			}
		}
		if !slices.Equal(places, []int{0, 2, 3}) || !slices.Equal(sizes, []int{3, 0, 2}) {
			t.Error(places, sizes)
		}
		for range all {
			break
		}
	}
	for range tcp.Options(header(), 5) {
		t.Error("none")
	}
	a := header(option(5, 3), option(6, 0))
	others := []func(h *api.Header){
		func(h *api.Header) { h.FromPort++ }, func(h *api.Header) { h.ToPort++ }, func(h *api.Header) { h.Seq++ },
		func(h *api.Header) { h.Ack++ }, func(h *api.Header) { h.Flags++ }, func(h *api.Header) { h.Window++ },
		func(h *api.Header) { h.Sum++ }, func(h *api.Header) { h.Options[0].Kind++ }, func(h *api.Header) { h.Options[0].Body[2]++ },
		func(h *api.Header) { h.Options = h.Options[:1] }, func(h *api.Header) { h.Options[1].Body = body(1) },
	}
	for i, change := range others {
		b := header(option(5, 3), option(6, 0))
		if !tcp.Same(a, b) {
			t.Error("the same")
		}
		change(&b)
		if tcp.Same(a, b) || tcp.Same(b, a) {
			t.Error(i)
		}
	}
	if !tcp.Same(api.Header{}, api.Header{Options: []api.Option{}}) || !tcp.Same(header(api.Option{Kind: 4}), header(option(4, 0))) {
		t.Error("nil and empty")
	}
}

// P8.4: there and back, whatever stands behind.
func TestThereAndBack(t *testing.T) {
	for n := range 16 {
		for i := range 39 {
			h := header(option(byte(2+n), i))
			if i%3 == 0 && i < 30 {
				h.Options = append(h.Options, api.Option{Kind: 1}, option(90, i%5))
			}
			h.Flags = api.Flags(n)
			b, e := tcp.Raw(h)
			size, _ := tcp.Size(h)
			if e != api.OK {
				t.Fatal(e)
			}
			back, at, e := tcp.Parse(append(bytes.Clone(b), body(i)...))
			if e != api.OK || at != size || !tcp.Same(back, h) {
				t.Fatal(h, back, at, e)
			}
			if again, e := tcp.Raw(back); e != api.OK || !bytes.Equal(again, b) {
				t.Fatal(again, e)
			}
			b[len(b)-1] ^= 1
			if !tcp.Same(back, h) {
				t.Fatal("an answer shares memory with what was handed in")
			}
		}
	}
	if a, has, e := tcp.AuthOf(header(tcp.Auth(auth))); a != auth || !has || e != api.OK {
		t.Error(a, has, e)
	}
}

// P8.4: whatever bytes are parsed are laid down as the same bytes.
func FuzzParse(f *testing.F) {
	b, _ := tcp.Raw(header(tcp.Auth(auth), option(3, 3)))
	f.Add(b)
	f.Fuzz(func(t *testing.T, b []byte) {
		given := bytes.Clone(b)
		h, n, e := tcp.Parse(b)
		if !bytes.Equal(given, b) {
			t.Error("changed")
		}
		if e != api.OK {
			return
		}
		if again, e := tcp.Raw(h); e != api.OK || !bytes.Equal(again, b[:n]) {
			t.Error(again, e)
		}
	})
}
