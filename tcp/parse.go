package tcp

import (
	"bytes"
	"iter"

	"pursuivant/api"
)

// rest is the bytes that were not taken yet.
type rest struct{ bytes []byte }

// reader takes bytes; where there are too few, it refuses.
type reader struct {
	rest
	take func(n int, e api.Errno) []byte
}

func readerOf(b []byte) *reader {
	r := &reader{rest: rest{b}}
	r.take = func(n int, e api.Errno) []byte {
		refuse(n > len(r.bytes), e)
		taken := r.bytes[:n]
		r.bytes = r.bytes[n:]
		return taken
	}
	return r
}

// options goes over options, the end among them, till nothing is left.
func (r *reader) options() iter.Seq[api.Option] {
	return func(yield func(api.Option) bool) {
		for len(r.bytes) > 0 {
			o := api.Option{Kind: r.take(1, api.ErrOption)[0]}
			if o.Kind > kindNothing {
				size := int(r.take(1, api.ErrOption)[0])
				refuse(size < 2, api.ErrOption)
				o.Body = bytes.Clone(r.take(size-2, api.ErrOption))
			}
			if !yield(o) {
				return
			}
		}
	}
}

func (r *reader) header() (api.Header, int) {
	refuse(len(r.bytes) < bareSize, api.ErrShort)
	var f form
	for _, part := range fields() {
		part.read(&f, r.take(part.size, api.ErrShort))
	}
	words := int(f.words >> 4)
	refuse(words < bareWords, api.ErrWords)
	within := readerOf(r.take((words-bareWords)*wordSize, api.ErrShort))
	refuse(f.words&15 != 0 || f.noughts != 0, api.ErrBits)
	f.Flags = flagsOf(f.bits)
all:
	for o := range within.options() {
		switch o.Kind {
		case kindEnd:
			noughts := within.bytes
			refuse(1+len(noughts) > mostNoughts || len(bytes.Trim(noughts, "\x00")) > 0, api.ErrOption)
			break all
		default:
			f.Options = append(f.Options, o)
		}
	}
	return f.Header, words * wordSize
}

// Parse: P8.1.
func Parse(b []byte) (h api.Header, n int, e api.Errno) {
	defer func() {
		if why := refused(recover()); why != api.OK {
			h, n, e = api.Header{}, 0, why
		}
	}()
	h, n = readerOf(b).header()
	return h, n, api.OK
}
