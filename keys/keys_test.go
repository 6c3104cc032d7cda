package keys_test

import (
	"slices"
	"strings"
	"testing"

	"pursuivant/api"
	"pursuivant/keys"
)

func key(peer uint32, send, recv uint8) api.Mkt {
	return api.Mkt{Peer: peer, Send: send, Recv: recv, Alg: api.AlgHmac, Master: "k"}
}

func of(t *testing.T, l ...api.Mkt) *keys.Keys {
	k := keys.New()
	for _, m := range l {
		if e := k.Add(m); e != api.OK {
			t.Fatal(m, e)
		}
	}
	return k
}

// P10.1: what may be added, in the order of the errors.
func TestAdd(t *testing.T) {
	k := of(t, key(1, 5, 6))
	long := strings.Repeat("m", 81)
	for i, r := range []struct {
		m api.Mkt
		e api.Errno
	}{
		{api.Mkt{Peer: 1, Send: 9, Recv: 9, Alg: 0, Master: "k"}, api.ErrArg},
		{api.Mkt{Peer: 1, Send: 9, Recv: 9, Alg: 3, Master: "k"}, api.ErrArg},
		{api.Mkt{Peer: 1, Send: 9, Recv: 9, Alg: -1, Master: "k"}, api.ErrArg},
		{api.Mkt{Peer: 1, Send: 9, Recv: 9, Alg: 1}, api.ErrArg},
		{api.Mkt{Peer: 1, Send: 9, Recv: 9, Alg: 1, Master: long}, api.ErrArg},
		{api.Mkt{Peer: 1, Send: 5, Recv: 9, Alg: 1, Master: long}, api.ErrArg},
		{key(1, 5, 9), api.ErrTwice},
		{key(1, 9, 6), api.ErrTwice},
		{key(1, 6, 5), api.OK},
		{key(2, 5, 6), api.OK},
		{api.Mkt{Peer: 3, Send: 0, Recv: 0, Alg: 2, Master: long[:80]}, api.OK},
	} {
		before := k.Copy()
		if e := k.Add(r.m); e != r.e || e != api.OK && !keys.Same(k, before) {
			t.Error(i, e)
		}
	}
	for i := range 12 {
		if e := k.Add(key(9, uint8(i), uint8(i))); e != api.OK {
			t.Error(i, e)
		}
	}
	before := k.Copy()
	if e := k.Add(key(9, 90, 90)); e != api.ErrLong {
		t.Error("the seventeenth", e)
	}
	if e := k.Add(key(1, 5, 9)); e != api.ErrTwice {
		t.Error("twice goes ahead of long", e)
	}
	if !keys.Same(k, before) {
		t.Error("what is refused changes something")
	}
	if e := k.Remove(9, 4); e != api.OK || k.Add(key(9, 90, 90)) != api.OK {
		t.Error("the way back", e)
	}
	if l := k.All(); len(l) != 16 || l[15] != key(9, 90, 90) || l[0] != key(1, 5, 6) {
		t.Error(l)
	}
}

// P10.1: keys that are removed, and preferred.
func TestRemovePrefer(t *testing.T) {
	k := of(t, key(1, 5, 6), key(1, 7, 8), key(2, 5, 6))
	for i, r := range []struct {
		prefer bool
		peer   uint32
		send   uint8
		e      api.Errno
	}{
		{false, 1, 5, api.ErrWanted},
		{false, 1, 6, api.ErrNone},
		{false, 3, 5, api.ErrNone},
		{true, 3, 5, api.ErrNone},
		{true, 1, 8, api.ErrNone},
		{true, 1, 7, api.OK},
		{false, 1, 7, api.ErrWanted},
		{false, 1, 5, api.OK},
		{false, 1, 5, api.ErrNone},
		{true, 1, 5, api.ErrNone},
		{false, 2, 5, api.ErrWanted},
	} {
		var e api.Errno
		if r.prefer {
			e = k.Prefer(r.peer, r.send)
		} else {
			e = k.Remove(r.peer, r.send)
		}
		if e != r.e {
			t.Error(i, e)
		}
	}
	if l := k.All(); !slices.Equal(l, []api.Mkt{key(1, 7, 8), key(2, 5, 6)}) {
		t.Error(l)
	}
}

// P10.2: which one is told.
func TestTold(t *testing.T) {
	k := of(t, key(1, 5, 6), key(1, 7, 8), key(2, 5, 9))
	tell := func(m api.Mkt, is bool) string {
		if !is && m != (api.Mkt{}) {
			return "beside false"
		}
		if !is {
			return "-"
		}
		return string(rune('a' + slices.Index(k.All(), m)))
	}
	if tell(k.Preferred(1)) != "a" || tell(k.Preferred(2)) != "c" || tell(k.Preferred(3)) != "-" {
		t.Error("Preferred")
	}
	k.Prefer(1, 7)
	if tell(k.Preferred(1)) != "b" || tell(k.Preferred(2)) != "c" {
		t.Error("Preferred behind Prefer")
	}
	if tell(k.BySend(1, 5)) != "a" || tell(k.BySend(1, 7)) != "b" || tell(k.BySend(2, 5)) != "c" || tell(k.BySend(1, 6)) != "-" || tell(k.BySend(2, 7)) != "-" {
		t.Error("BySend")
	}
	if tell(k.ByRecv(1, 6)) != "a" || tell(k.ByRecv(1, 8)) != "b" || tell(k.ByRecv(2, 9)) != "c" || tell(k.ByRecv(1, 5)) != "-" || tell(k.ByRecv(2, 6)) != "-" {
		t.Error("ByRecv")
	}
	l := k.All()
	l[0].Send = 99
	if k.All()[0].Send != 5 {
		t.Error("All shares memory")
	}
}

// P10.2: copies, what is the same, none.
func TestCopySame(t *testing.T) {
	k := of(t, key(1, 5, 6), key(1, 7, 8))
	c := k.Copy()
	if !keys.Same(k, c) {
		t.Error("a copy")
	}
	c.Prefer(1, 7)
	if m, _ := k.Preferred(1); m.Send != 5 || keys.Same(k, c) {
		t.Error("a copy goes on apart")
	}
	k.Prefer(1, 7)
	if !keys.Same(k, c) {
		t.Error("the same wish")
	}
	c.Remove(1, 5)
	if keys.Same(k, c) || len(k.All()) != 2 {
		t.Error("one fewer")
	}
	first, plain := of(t, key(1, 5, 6), key(1, 7, 8)), of(t, key(1, 5, 6), key(1, 7, 8))
	first.Prefer(1, 5)
	if !keys.Same(first, plain) {
		t.Error("the first one is the preferred one of both")
	}
	if keys.Same(of(t, key(1, 5, 6), key(2, 5, 6)), of(t, key(2, 5, 6), key(1, 5, 6))) {
		t.Error("another order")
	}
	for _, none := range []*keys.Keys{nil, {}} {
		_, a := none.Preferred(1)
		_, b := none.BySend(1, 5)
		_, c := none.ByRecv(1, 6)
		if a || b || c || none.Add(key(1, 5, 6)) != api.ErrNil || none.Add(api.Mkt{}) != api.ErrNil || none.Remove(1, 5) != api.ErrNil || none.Prefer(1, 5) != api.ErrNil || none.All() != nil || none.Copy() != nil {
			t.Error("none answers")
		}
		if keys.Same(none, k) || keys.Same(k, none) || keys.Same(keys.New(), none) || !keys.Same(none, nil) || !keys.Same(nil, none) {
			t.Error("a nil one is like a nil one alone")
		}
	}
	if !keys.Same(keys.New(), keys.New()) {
		t.Error("no keys are the same")
	}
}

// P10.3: a peer that has keys has a preferred one; peers don't touch each other.
func TestFollows(t *testing.T) {
	k := keys.New()
	for i := range 400 {
		peer, send := uint32(i%3), uint8(i*7%5)
		before := k.Copy()
		switch i % 4 {
		case 0, 1:
			k.Add(key(peer, send, uint8(i%6)))
		case 2:
			k.Prefer(peer, send)
		case 3:
			k.Remove(peer, send)
		}
		for other := range uint32(3) {
			m, is := k.Preferred(other)
			had, was := before.Preferred(other)
			if other != peer && (m != had || is != was) {
				t.Fatal("another peer's preferred one", i)
			}
			if is != slices.ContainsFunc(k.All(), func(m api.Mkt) bool { return m.Peer == other }) {
				t.Fatal("a peer without a preferred one", i)
			}
		}
	}
}
