package msg_test

import (
	"bytes"
	"slices"
	"testing"

	"pursuivant/api"
	"pursuivant/frame"
	"pursuivant/msg"
	"pursuivant/open"
	"pursuivant/update"
)

func opening() api.Message {
	return api.Message{Kind: api.MsgOpen, Open: api.Open{As: 7, Hold: 9, Id: 5, Caps: []api.Cap{{Code: 3, Body: []byte{1}}}}}
}

func updating() api.Message {
	return api.Message{Kind: api.MsgUpdate, Update: api.Update{Gone: []api.Prefix{{Addr: 0x0a000000, Len: 8}}, New: []api.Prefix{{Addr: 0x0b000000, Len: 8}}, Attrs: api.Attrs{Next: 4, Tags: []uint32{1}}}}
}

func noticing(n int) api.Message {
	return api.Message{Kind: api.MsgNotice, Notice: api.Notice{Code: 6, Sub: 2, Data: bytes.Repeat([]byte{8}, n)}}
}

func keeping() api.Message { return api.Message{Kind: api.MsgKeep} }

func raw(t *testing.T, m api.Message) []byte {
	t.Helper()
	b, e := msg.Raw(m)
	if e != api.OK {
		t.Fatal(m, e)
	}
	return b
}

// P21.1: which messages may be, and their bytes.
func TestCheckRaw(t *testing.T) {
	with := func(m api.Message, change func(m *api.Message)) api.Message {
		change(&m)
		return m
	}
	long := opening()
	long.Open.Caps = []api.Cap{{Code: 1, Body: make([]byte, 100)}, {Code: 2, Body: make([]byte, 100)}, {Code: 3, Body: make([]byte, 42)}}
	var hosts []api.Prefix
	for i := range 98 {
		hosts = append(hosts, api.Prefix{Addr: uint32(i), Len: 32})
	}
	for i, r := range []struct {
		m api.Message
		e api.Errno
	}{
		{opening(), api.OK},
		{updating(), api.OK},
		{noticing(0), api.OK},
		{noticing(491), api.OK},
		{keeping(), api.OK},
		{api.Message{}, api.ErrArg},
		{api.Message{Kind: 5}, api.ErrArg},
		{api.Message{Kind: -1}, api.ErrArg},
		{api.Message{Kind: api.MsgOpen}, api.ErrArg},
		{api.Message{Kind: api.MsgUpdate}, api.OK},
		{api.Message{Kind: api.MsgNotice}, api.OK},
		{noticing(492), api.ErrLong},
		{long, api.ErrLong},
		{api.Message{Kind: api.MsgUpdate, Update: api.Update{Gone: hosts}}, api.ErrLong},
		{api.Message{Kind: api.MsgUpdate, Update: api.Update{New: hosts[:1]}}, api.ErrArg},
		{with(opening(), func(m *api.Message) { m.Open.Hold = 2 }), api.ErrArg},
		{with(opening(), func(m *api.Message) { m.Notice.Sub = 1 }), api.ErrArg},
		{with(long, func(m *api.Message) { m.Notice.Data = []byte{1} }), api.ErrArg},
		{with(opening(), func(m *api.Message) { m.Update.Attrs.Med = 1 }), api.ErrArg},
		{with(updating(), func(m *api.Message) { m.Open.Id = 1 }), api.ErrArg},
		{with(noticing(500), func(m *api.Message) { m.Open.Id = 1 }), api.ErrArg},
		{with(keeping(), func(m *api.Message) { m.Notice.Code = 1 }), api.ErrArg},
		{with(keeping(), func(m *api.Message) { m.Update.Gone = hosts[:1] }), api.ErrArg},
		{with(keeping(), func(m *api.Message) {
			m.Update.Gone, m.Notice.Data, m.Open.Caps = []api.Prefix{}, []byte{}, []api.Cap{}
		}), api.OK},
	} {
		b, e := msg.Raw(r.m)
		if msg.Check(r.m) != r.e || e != r.e || e != api.OK && b != nil {
			t.Error(i, msg.Check(r.m), b, e)
		}
	}
	o, _ := open.Raw(opening().Open)
	u, _ := update.Raw(updating().Update)
	for kind, body := range map[int][]byte{1: o, 2: u, 3: {6, 2, 8, 8}, 4: nil} {
		want, _ := frame.Raw(kind, body)
		m := []api.Message{{}, opening(), updating(), noticing(2), keeping()}[kind]
		if b := raw(t, m); !bytes.Equal(b, want) {
			t.Errorf("%x", b)
		}
		if back, e := msg.Parse(api.MsgKind(kind), body); e != api.OK || !msg.Same(back, m) {
			t.Error(back, e)
		}
	}
}

// P21.1: bodies that are none.
func TestParseRefuse(t *testing.T) {
	for i, r := range []struct {
		kind api.MsgKind
		body []byte
		e    api.Errno
	}{
		{0, nil, api.ErrArg},
		{5, nil, api.ErrArg},
		{-1, []byte{1}, api.ErrArg},
		{api.MsgOpen, nil, api.ErrBody},
		{api.MsgOpen, make([]byte, 10), api.ErrVersion},
		{api.MsgUpdate, nil, api.ErrGone},
		{api.MsgUpdate, []byte{0, 0, 0, 0, 33}, api.ErrNew},
		{api.MsgNotice, nil, api.ErrBrief},
		{api.MsgNotice, []byte{1}, api.ErrBrief},
		{api.MsgNotice, make([]byte, 493), api.OK},
		{api.MsgNotice, make([]byte, 494), api.ErrLong},
		{api.MsgKeep, []byte{0}, api.ErrKeep},
	} {
		m, e := msg.Parse(r.kind, r.body)
		if e != r.e || e != api.OK && !msg.Same(m, api.Message{}) {
			t.Error(i, m, e)
		}
	}
	body := []byte{1, 2, 3}
	m, _ := msg.Parse(api.MsgNotice, body)
	body[2] = 9
	if m.Notice.Data[0] != 3 {
		t.Error("an answer shares memory with what was handed in")
	}
}

// told is the table of the document.
var told = map[api.Errno][2]uint8{
	api.ErrMark: {1, 1}, api.ErrSize: {1, 2}, api.ErrKeep: {1, 2}, api.ErrBrief: {1, 2}, api.ErrBody: {1, 2}, api.ErrKind: {1, 3},
	api.ErrVersion: {2, 1}, api.ErrAs: {2, 2}, api.ErrId: {2, 3}, api.ErrParams: {2, 4}, api.ErrHold: {2, 6},
	api.ErrList: {3, 1}, api.ErrRise: {3, 1}, api.ErrGone: {3, 1}, api.ErrSaid: {3, 1}, api.ErrOrder: {3, 1}, api.ErrWhole: {3, 1},
	api.ErrCode: {3, 2}, api.ErrLack: {3, 3}, api.ErrFlags: {3, 4}, api.ErrBytes: {3, 5}, api.ErrOrigin: {3, 6}, api.ErrNext: {3, 8}, api.ErrTags: {3, 9}, api.ErrNew: {3, 10}, api.ErrPath: {3, 11},
}

// P21.2: what is told of errors.
func TestNoticeOf(t *testing.T) {
	for e := api.Errno(-5); e < 500; e++ {
		n, is := msg.NoticeOf(e)
		want, has := told[e]
		if is != has || n.Code != want[0] || n.Sub != want[1] || len(n.Data) != 0 {
			t.Error(e, n, is)
		}
	}
}

// P21.3: a reader.
func TestReader(t *testing.T) {
	r := msg.New()
	next := func(want api.Message, is bool, e api.Errno) {
		t.Helper()
		m, got, f := r.Next()
		if got != is || f != e || !msg.Same(m, want) {
			t.Error(m, got, f)
		}
	}
	next(api.Message{}, false, api.OK)
	b := raw(t, opening())
	if r.Write(b[:5]) != api.OK {
		t.Error("Write")
	}
	next(api.Message{}, false, api.OK)
	r.Write(b[5:])
	bad, _ := frame.Raw(4, []byte{1})
	r.Write(slices.Concat(raw(t, updating()), bad, raw(t, keeping())))
	c := r.Copy()
	next(opening(), true, api.OK)
	next(updating(), true, api.OK)
	if r.Flaw() != api.OK || r.Write(nil) != api.OK {
		t.Error("a flaw ahead of its being looked at")
	}
	next(api.Message{}, false, api.ErrKeep)
	next(api.Message{}, false, api.ErrKeep)
	if r.Flaw() != api.ErrKeep || r.Write(raw(t, keeping())) != api.ErrKeep || r.Copy().Flaw() != api.ErrKeep {
		t.Error(r.Flaw())
	}
	n := 0
	all := c.All()
	for m := range all {
		if n++; !msg.Same(m, opening()) {
			t.Error(m)
		}
		break
	}
	for m := range all {
		if n++; !msg.Same(m, updating()) {
			t.Error(m)
		}
	}
	if n != 2 || c.Flaw() != api.ErrKeep {
		t.Error(n, c.Flaw())
	}
	for range all {
		t.Error("behind a flaw")
	}
	r = msg.New()
	r.Write(make([]byte, 19))
	next(api.Message{}, false, api.ErrMark)
	if r.Write(nil) != api.ErrMark {
		t.Error("Write")
	}
	for _, none := range []*msg.Reader{nil, {}} {
		m, is, e := none.Next()
		if !msg.Same(m, api.Message{}) || is || e != api.ErrNil || none.Write(nil) != api.ErrNil || none.Flaw() != api.ErrNil || none.Copy() != nil {
			t.Error("none answers")
		}
		for range none.All() {
			t.Error("none tells")
		}
	}
}

// P21.4: what is the same.
func TestSame(t *testing.T) {
	l := []api.Message{{}, opening(), updating(), noticing(0), noticing(1), keeping()}
	for i, a := range l {
		for j, b := range l {
			if msg.Same(a, b) != (i == j) {
				t.Error(i, j)
			}
		}
	}
	for i, change := range []func(m *api.Message){
		func(m *api.Message) { m.Notice.Code++ }, func(m *api.Message) { m.Notice.Sub++ }, func(m *api.Message) { m.Notice.Data[0]++ },
		func(m *api.Message) { m.Open.Id++ }, func(m *api.Message) { m.Update.Attrs.Next++ }, func(m *api.Message) { m.Kind++ },
	} {
		m := noticing(1)
		change(&m)
		if msg.Same(m, noticing(1)) {
			t.Error(i)
		}
	}
}

// P21.5: messages' bytes, however they are cut.
func TestFollows(t *testing.T) {
	var text []byte
	l := []api.Message{opening(), keeping(), updating(), {Kind: api.MsgUpdate}, noticing(491), keeping(), noticing(0)}
	for _, m := range l {
		text = append(text, raw(t, m)...)
	}
	for step := 1; step < len(text); step += 5 {
		r := msg.New()
		var got []api.Message
		for at := 0; at < len(text); at += step {
			r.Write(text[at:min(at+step, len(text))])
			for m := range r.All() {
				got = append(got, m)
			}
		}
		if !slices.EqualFunc(got, l, msg.Same) || r.Flaw() != api.OK {
			t.Fatal(step, len(got), r.Flaw())
		}
	}
}

// P21.5: each flaw has what is told of it; what is read may be said.
func FuzzReader(f *testing.F) {
	for _, m := range []api.Message{opening(), updating(), noticing(3), keeping()} {
		b, _ := msg.Raw(m)
		f.Add(b)
	}
	f.Fuzz(func(t *testing.T, b []byte) {
		r := msg.New()
		r.Write(b)
		var again []byte
		for m := range r.All() {
			x, e := msg.Raw(m)
			if e != api.OK {
				t.Error(m, e)
			}
			again = append(again, x...)
		}
		if !bytes.HasPrefix(b, again) {
			t.Error(again)
		}
		if _, is := msg.NoticeOf(r.Flaw()); r.Flaw() != api.OK && !is {
			t.Error(r.Flaw())
		}
	})
}
