package seg_test

import (
	"bytes"
	"testing"

	"pursuivant/api"
	"pursuivant/seg"
	"pursuivant/sum"
	"pursuivant/tcp"
)

func data(n int) []byte {
	b := make([]byte, n)
	for i := range b {
		b[i] = byte(i*11 + 2)
	}
	return b
}

func segment(n int, has bool) api.Seg {
	s := api.Seg{From: 0x01020304, To: 0x05060708, FromPort: 0x090a, ToPort: 0x0b0c, Ttl: 254, Seq: 0x0d0e0f10, Ack: 0x11121314, Window: 0x1516, Flags: api.Ack, Data: data(n)}
	if has {
		s.Has, s.Auth = true, api.Auth{Key: 7, Next: 8, Tag: [12]byte{1, 2, 3, 4, 5, 6, 7, 8, 9, 10, 11, 12}}
	}
	return s
}

// changes make a segment another one, each in another part.
func changes() map[string]func(s *api.Seg) {
	return map[string]func(s *api.Seg){
		"From": func(s *api.Seg) { s.From++ }, "To": func(s *api.Seg) { s.To++ },
		"FromPort": func(s *api.Seg) { s.FromPort++ }, "ToPort": func(s *api.Seg) { s.ToPort++ },
		"Ttl": func(s *api.Seg) { s.Ttl++ }, "Seq": func(s *api.Seg) { s.Seq++ }, "Ack": func(s *api.Seg) { s.Ack++ },
		"Window": func(s *api.Seg) { s.Window++ }, "Flags": func(s *api.Seg) { s.Flags ^= api.Fin },
		"Key": func(s *api.Seg) { s.Auth.Key++ }, "Next": func(s *api.Seg) { s.Auth.Next++ }, "Tag": func(s *api.Seg) { s.Auth.Tag[11]++ },
		"Data": func(s *api.Seg) { s.Data[1]++ }, "fewer": func(s *api.Seg) { s.Data = s.Data[:2] },
	}
}

// P9.1: which segments may be, and their bytes.
func TestCheckRaw(t *testing.T) {
	for i, r := range []struct {
		change func(s *api.Seg)
		e      api.Errno
	}{
		{func(s *api.Seg) {}, api.OK},
		{func(s *api.Seg) { s.Flags = 15 }, api.OK},
		{func(s *api.Seg) { s.Flags = 0 }, api.OK},
		{func(s *api.Seg) { s.Flags = 16 }, api.ErrArg},
		{func(s *api.Seg) { s.Flags = -1 }, api.ErrArg},
		{func(s *api.Seg) { s.Data = data(64) }, api.OK},
		{func(s *api.Seg) { s.Data = data(65) }, api.ErrArg},
		{func(s *api.Seg) { s.Auth.Key = 1 }, api.ErrArg},
		{func(s *api.Seg) { s.Auth.Tag[3] = 1 }, api.ErrArg},
		{func(s *api.Seg) { s.Has = true }, api.OK},
	} {
		s := segment(3, false)
		r.change(&s)
		b, e := seg.Raw(s)
		if seg.Check(s) != r.e || e != r.e || e != api.OK && b != nil {
			t.Error(i, seg.Check(s), b, e)
		}
	}
	for _, has := range []bool{false, true} {
		s := segment(5, has)
		h := api.Header{FromPort: s.FromPort, ToPort: s.ToPort, Seq: s.Seq, Ack: s.Ack, Flags: s.Flags, Window: s.Window}
		if has {
			h.Options = []api.Option{tcp.Auth(s.Auth)}
		}
		bare, _ := tcp.Raw(h)
		head, _ := sum.Head(s.From, s.To, len(bare)+5)
		h.Sum = sum.Sum(head, bare, s.Data)
		with, _ := tcp.Raw(h)
		want := append(append([]byte{1, 2, 3, 4, 5, 6, 7, 8, 254}, with...), s.Data...)
		if b, e := seg.Raw(s); e != api.OK || !bytes.Equal(b, want) {
			t.Errorf("%x %v, not %x", b, e, want)
		}
	}
}

// P9.1: the errors of bytes, in their order.
func TestParseRefuse(t *testing.T) {
	// laid is a segment of that header and data; the sum is right.
	laid := func(h api.Header, n int) []byte {
		h.Sum = 0
		bare, _ := tcp.Raw(h)
		head, _ := sum.Head(1, 2, len(bare)+n)
		h.Sum = sum.Sum(head, bare, data(n))
		with, _ := tcp.Raw(h)
		return append(append([]byte{0, 0, 0, 1, 0, 0, 0, 2, 255}, with...), data(n)...)
	}
	with := func(l ...api.Option) api.Header { return api.Header{Seq: 5, Flags: api.Syn, Options: l} }
	auth := tcp.Auth(api.Auth{Key: 1})
	changed := func(b []byte, at int) []byte {
		b[at] ^= 64
		return b
	}
	for i, r := range []struct {
		b []byte
		e api.Errno
	}{
		{nil, api.ErrFew},
		{make([]byte, 8), api.ErrFew},
		{make([]byte, 9), api.ErrShort},
		{make([]byte, 29), api.ErrWords},
		{laid(with(), 0), api.OK},
		{laid(with(auth), 64), api.OK},
		{laid(with(auth, auth), 0), api.ErrOptions},
		{laid(with(tcp.Greatest(3)), 0), api.ErrOptions},
		{laid(with(auth, tcp.Greatest(3)), 65), api.ErrOptions},
		{laid(with(api.Option{Kind: 29, Body: data(13)}), 0), api.ErrOptions},
		{laid(with(api.Option{Kind: 1}), 0), api.ErrOptions},
		{laid(with(), 65), api.ErrMany},
		{changed(laid(with(), 65), 60), api.ErrMany},
		{laid(with(), 70000), api.ErrMany},
		{changed(laid(with(), 3), 0), api.ErrSum},
		{changed(laid(with(), 3), 31), api.ErrSum},
		{changed(laid(with(auth), 3), 15), api.ErrSum},
		{changed(laid(with(), 3), 8), api.OK}, // the Ttl is not in the sum
		{changed(laid(with(), 3), 22), api.ErrBits},
	} {
		s, e := seg.Parse(r.b)
		if e != r.e || e != api.OK && !seg.Same(s, api.Seg{}) {
			t.Error(i, s, e)
		}
	}
}

// P9.2: what is tagged, byte by byte; of none that may not be.
func TestCovered(t *testing.T) {
	s := segment(5, true)
	bare := s
	bare.Auth.Tag = [12]byte{}
	h := api.Header{FromPort: s.FromPort, ToPort: s.ToPort, Seq: s.Seq, Ack: s.Ack, Flags: s.Flags, Window: s.Window, Options: []api.Option{tcp.Auth(bare.Auth)}}
	header, _ := tcp.Raw(h)
	head, _ := sum.Head(s.From, s.To, len(header)+5)
	want := append(append(append([]byte{0xa1, 0xb2, 0xc3, 0xd4}, head...), header...), s.Data...)
	if b := seg.Covered(s, 0xa1b2c3d4); !bytes.Equal(b, want) {
		t.Errorf("%x", b)
	}
	if b := seg.Covered(segment(5, false), 0); len(b) != 0 {
		t.Error(b)
	}
	s.Flags = 16
	if b := seg.Covered(s, 0); len(b) != 0 {
		t.Error(b)
	}
	if b := seg.Covered(segment(65, true), 0); len(b) != 0 {
		t.Error(b)
	}
}

// P9.2: how many numbers it takes; without its Auth; what is the same.
func TestTakesBareSame(t *testing.T) {
	for i, r := range []struct {
		flags   api.Flags
		n, want int
	}{{api.Syn, 0, 1}, {api.Fin, 3, 4}, {api.Ack, 0, 0}, {api.Rst | api.Ack, 64, 64}, {api.Syn | api.Fin, 64, 66}, {0, 65, 0}, {16, 1, 0}, {-1, 1, 0}} {
		s := segment(r.n, true)
		s.Flags = r.flags
		if n := seg.Takes(s); n != r.want {
			t.Error(i, n)
		}
	}
	s := segment(4, true)
	b := seg.Bare(s)
	if !seg.Same(b, segment(4, false)) || !seg.Same(s, segment(4, true)) {
		t.Error(b)
	}
	b.Data[0]++
	if !seg.Same(s, segment(4, true)) {
		t.Error("Bare shares memory")
	}
	for name, change := range changes() {
		other := segment(4, true)
		change(&other)
		if seg.Same(s, other) || seg.Same(other, s) {
			t.Error(name)
		}
	}
	a, c := api.Seg{}, api.Seg{Data: []byte{}}
	if !seg.Same(a, c) {
		t.Error("nil and empty")
	}
	c.Has = true
	if seg.Same(a, c) {
		t.Error("Has")
	}
}

// P9.3: there and back; the sums 0 and 65535; what is tagged hangs on all but Ttl and Tag.
func TestFollows(t *testing.T) {
	for n := range 65 {
		for flags := range api.Flags(16) {
			s := segment(n, n%2 == 0)
			s.Flags = flags
			b, _ := seg.Raw(s)
			back, e := seg.Parse(b)
			if e != api.OK || !seg.Same(back, s) {
				t.Fatal(back, e)
			}
			b[len(b)-1]++
			if !seg.Same(back, s) {
				t.Fatal("an answer shares memory with what was handed in")
			}
		}
	}
	s := segment(6, true)
	covered := seg.Covered(s, 9)
	for name, change := range changes() {
		other := segment(6, true)
		change(&other)
		if same := bytes.Equal(seg.Covered(other, 9), covered); same != (name == "Ttl" || name == "Tag") {
			t.Error(name, same)
		}
	}
	if bytes.Equal(seg.Covered(s, 10), covered) {
		t.Error("sne")
	}
	// A segment whose sum is 0, by the choice of its Window; 65535 checks then, too.
	s = segment(0, false)
	s.Window = 0
	b, _ := seg.Raw(s)
	s.Window = uint16(b[25])<<8 | uint16(b[26])
	b, _ = seg.Raw(s)
	if b[25] != 0 || b[26] != 0 {
		t.Fatalf("%x", b)
	}
	b[25], b[26] = 255, 255
	if back, e := seg.Parse(b); e != api.OK || !seg.Same(back, s) {
		t.Error(back, e)
	}
}

func FuzzParse(f *testing.F) {
	for _, n := range []int{0, 3, 64} {
		b, _ := seg.Raw(segment(n, n > 0))
		f.Add(b)
	}
	f.Fuzz(func(t *testing.T, b []byte) {
		s, e := seg.Parse(b)
		if e != api.OK {
			return
		}
		again, e := seg.Raw(s)
		if e != api.OK || len(again) != len(b) {
			t.Fatal(again, e)
		}
		sumOf := func(b []byte) uint16 { return uint16(b[25])<<8 | uint16(b[26]) }
		if x, y := sumOf(b), sumOf(again); x != y && (x != 65535 || y != 0) {
			t.Fatal(x, y)
		}
		copy(again[25:27], b[25:27])
		if !bytes.Equal(again, b) {
			t.Fatal(again)
		}
	})
}
