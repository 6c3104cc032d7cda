package seg

import (
	"slices"

	"pursuivant/api"
	"pursuivant/sum"
	"pursuivant/tcp"
)

// rest is the bytes that were not read yet.
type rest struct{ bytes []byte }

// reader reads a segment, step by step.
type reader struct {
	rest
	seg    api.Seg
	header api.Header
	whole  []byte // header and Data, of which the sum is
}

func (r *reader) ahead() api.Errno {
	if len(r.bytes) < aheadSize {
		return api.ErrFew
	}
	b := r.bytes
	r.seg.From, r.seg.To, r.seg.Ttl = number[uint32](b[:4]), number[uint32](b[4:8]), number[uint8](b[8:aheadSize])
	r.bytes = b[aheadSize:]
	return api.OK
}

func (r *reader) head() api.Errno {
	h, n, e := tcp.Parse(r.bytes)
	if e != api.OK {
		return e
	}
	r.header = h
	r.whole = r.bytes
	r.bytes = r.bytes[n:]
	s := &r.seg
	s.FromPort, s.ToPort, s.Seq, s.Ack = h.FromPort, h.ToPort, h.Seq, h.Ack
	s.Flags, s.Window = h.Flags, h.Window
	return api.OK
}

func (r *reader) options() api.Errno {
	a, has, e := tcp.AuthOf(r.header)
	if e != api.OK || len(r.header.Options) > 1 || len(r.header.Options) == 1 && !has {
		return api.ErrOptions
	}
	r.seg.Has, r.seg.Auth = has, a
	return api.OK
}

func (r *reader) data() api.Errno {
	if len(r.bytes) > api.MaxData {
		return api.ErrMany
	}
	r.seg.Data = slices.Clone(r.bytes)
	return api.OK
}

func (r *reader) checks() api.Errno {
	head, e := sum.Head(r.seg.From, r.seg.To, len(r.whole))
	if e != api.OK || !sum.Check(head, r.whole) {
		return api.ErrSum
	}
	return api.OK
}

// Parse: P9.1.
func Parse(b []byte) (api.Seg, api.Errno) {
	r := &reader{rest: rest{b}}
	e := api.OK
read:
	for _, step := range []func() api.Errno{r.ahead, r.head, r.options, r.data, r.checks} {
		switch e = step(); e {
		case api.OK:
		default:
			break read
		}
	}
	if e != api.OK {
		return api.Seg{}, e
	}
	return r.seg, api.OK
}
