package tcp

import (
	"bytes"
	"iter"

	"pursuivant/api"
)

// Auth: P8.2.
func Auth(a api.Auth) api.Option {
	return api.Option{Kind: kindAuth, Body: append([]byte{a.Key, a.Next}, a.Tag[:]...)}
}

// AuthOf: P8.2.
func AuthOf(h api.Header) (a api.Auth, has bool, e api.Errno) {
	defer func() {
		if why := refused(recover()); why != api.OK {
			a, has, e = api.Auth{}, false, why
		}
	}()
	for _, body := range Options(h, kindAuth) {
		refuse(has || len(body) != authSize, api.ErrAuth)
		a, has = api.Auth{Key: body[0], Next: body[1], Tag: [12]byte(body[2:])}, true
	}
	return a, has, api.OK
}

// Greatest: P8.2.
func Greatest(n uint16) api.Option { return api.Option{Kind: kindGreatest, Body: laid(n)} }

// GreatestOf: P8.2.
func GreatestOf(h api.Header) (uint16, bool) {
	for _, body := range Options(h, kindGreatest) {
		if len(body) == greatestSize {
			return number[uint16](body), true
		}
	}
	return 0, false
}

// Options: P8.3.
func Options(h api.Header, kind uint8) iter.Seq2[int, []byte] {
	type placed struct {
		at   int
		body []byte
	}
	var l []placed // as they are now: who hands them in may change them till they are gone over
	for i, o := range h.Options {
		if o.Kind == kind {
			l = append(l, placed{i, bytes.Clone(o.Body)})
		}
	}
	return func(yield func(int, []byte) bool) {
		for _, p := range l {
			if !yield(p.at, bytes.Clone(p.body)) {
				return
			}
		}
	}
}
