package ao

import (
	"pursuivant/api"
	"pursuivant/keys"
	"pursuivant/mac"
	"pursuivant/seg"
)

// look is a segment that is looked at, and what was found out of it.
type look struct {
	*Guard
	keys *keys.Keys
	seg  api.Seg
	by   api.Mkt
	long int64
}

func (l *look) otherEnds() bool {
	s := l.seg
	return ends{s.To, s.From, s.ToPort, s.FromPort} != l.ends
}

func (l *look) tooFar() bool { return l.seg.Ttl < leastTtl }

func (l *look) bare() bool { return !l.seg.Has }

func (l *look) keyless() bool {
	m, is := l.keys.ByRecv(l.peer, l.seg.Auth.Key)
	l.by = m
	return !is
}

func (l *look) forged() bool {
	long, x, e := extension(l.marks[in], l.seg)
	if e != api.OK {
		return true
	}
	l.long = long
	tag, e := tagOf(l.by, l.seg, l.peerISN, l.localISN, x)
	return e != api.OK || !mac.Same(tag, l.seg.Auth.Tag)
}

// reason is why a segment is dropped, if it is so.
type reason struct {
	drop api.Drop
	is   func() bool
}

func (l *look) reasons() [5]reason {
	return [...]reason{
		{api.DropEnds, l.otherEnds},
		{api.DropTtl, l.tooFar},
		{api.DropBare, l.bare},
		{api.DropKey, l.keyless},
		{api.DropTag, l.forged},
	}
}

// In looks at one.
func (g *Guard) In(k *keys.Keys, s api.Seg) (api.Drop, api.Errno) {
	var l look
	drop := api.DropNone
	if g.none() || keys.Same(k, nil) {
		return api.DropNone, api.ErrNil
	}
	if e := seg.Check(s); e != api.OK {
		return api.DropNone, e
	}
	l = look{Guard: g, keys: k, seg: s}
	for _, r := range l.reasons() {
		if r.is() {
			drop = r.drop
			goto dropped
		}
	}
	l.taken()
dropped:
	g.drops[drop]++
	return drop, api.OK
}

// taken moves the mark, and by that heeds which key is wanted: what comes again, or late, turns no key back.
func (l *look) taken() {
	if l.seg.Flags&api.Syn != 0 || l.long <= l.marks[in].Value() {
		return
	}
	l.marks[in].Take(l.seg.Seq)
	if m, is := l.keys.BySend(l.peer, l.seg.Auth.Next); is {
		l.send = m.Send
	}
}
