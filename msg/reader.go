package msg

import (
	"iter"

	"pursuivant/api"
	"pursuivant/frame"
)

// frames are those under way.
type frames struct{ of *frame.Frames }

func (f frames) add(parts ...[]byte) api.Errno {
	for _, p := range parts {
		if e := f.of.Write(p); e != api.OK {
			return e
		}
	}
	return api.OK
}

func (f frames) take() (api.MsgKind, []byte, bool, api.Errno) {
	k, body, is, e := f.of.Next()
	return api.MsgKind(k), body, is, e
}

// Reader reads messages.
type Reader struct {
	frames // those that New made have them
	flaw   api.Errno
}

func (r *Reader) none() bool { return r == nil || r.of == nil }

// New: P21.3.
func New() *Reader { return &Reader{frames: frames{frame.New()}} }

// Write: P21.3.
func (r *Reader) Write(b []byte) api.Errno {
	if e := r.Flaw(); e != api.OK {
		return e
	}
	return r.add(b)
}

// Next: P21.3.
func (r *Reader) Next() (m api.Message, is bool, e api.Errno) {
	if e := r.Flaw(); e != api.OK {
		return api.Message{}, false, e
	}
	var kind api.MsgKind
	var body []byte
	for _, step := range []func(){
		func() { kind, body, is, e = r.take() },
		func() { m, e = Parse(kind, body) },
	} {
		if step(); !is || e != api.OK {
			r.flaw = e
			return api.Message{}, false, e
		}
	}
	return m, true, api.OK
}

// each goes over the messages that there are, and the flaw behind them, if there is one.
func (r *Reader) each() iter.Seq2[api.Message, api.Errno] {
	return func(yield func(api.Message, api.Errno) bool) {
		for {
			m, is, e := r.Next()
			if !is && e == api.OK || !yield(m, e) {
				return
			}
		}
	}
}

// All: P21.3.
func (r *Reader) All() iter.Seq[api.Message] {
	return func(yield func(api.Message) bool) {
	all:
		for m, e := range r.each() {
			switch {
			case e != api.OK, !yield(m):
				break all
			}
		}
	}
}

// Flaw: P21.3.
func (r *Reader) Flaw() api.Errno {
	if r.none() {
		return api.ErrNil
	}
	return r.flaw
}

// Copy: P21.3.
func (r *Reader) Copy() *Reader {
	if r.none() {
		return nil
	}
	return &Reader{frames{r.of.Copy()}, r.flaw}
}
