package open

import (
	"bytes"
	"iter"

	"pursuivant/api"
)

const leastSize = 10

// number reads bytes, the highest ahead.
func number[N uint8 | uint16 | uint32](b []byte) N {
	var n uint32
	for _, x := range b {
		n = n<<8 | uint32(x)
	}
	return N(n)
}

// rest is a body that is read.
type rest struct{ bytes []byte }

// reader reads an opening, step by step.
type reader struct {
	rest
	open api.Open
	caps []api.Cap // with the first one, which tells the system
}

func (r *reader) size() api.Errno {
	if len(r.bytes) < leastSize {
		return api.ErrBody
	}
	return api.OK
}

func (r *reader) version() api.Errno {
	if r.bytes[0] != version {
		return api.ErrVersion
	}
	return api.OK
}

func (r *reader) hold() api.Errno {
	r.open.Hold = number[uint16](r.bytes[3:5])
	if r.open.Hold != 0 && r.open.Hold < leastHold {
		return api.ErrHold
	}
	return api.OK
}

func (r *reader) id() api.Errno {
	r.open.Id = number[uint32](r.bytes[5:9])
	if r.open.Id == 0 {
		return api.ErrId
	}
	return api.OK
}

// params reads the one parameter that there may be.
func (r *reader) params() api.Errno {
	end := r.bytes[leastSize:]
	if int(number[uint8](r.bytes[9:leastSize])) != len(end) || len(end) < 2 || end[0] != capsKind || int(end[1]) != len(end)-2 {
		return api.ErrParams
	}
	e := api.OK
each:
	for c, whole := range capsOf(end[2:]) {
		switch {
		case !whole, c.Code == 0, len(c.Body) > mostBody, len(r.caps) > mostCaps, len(r.caps) > 0 && c.Code == asCode:
			e = api.ErrParams
			break each
		}
		r.caps = append(r.caps, c)
	}
	if e == api.OK && len(r.caps) > 1 {
		r.open.Caps = r.caps[1:]
		if !rising(r.open.Caps) {
			e = api.ErrParams
		}
	}
	return e
}

// capsOf goes over capabilities; one that goes beyond is not whole, and the last one.
func capsOf(b []byte) iter.Seq2[api.Cap, bool] {
	return func(yield func(api.Cap, bool) bool) {
		for len(b) > 0 {
			if len(b) < 2 || len(b)-2 < int(b[1]) {
				yield(api.Cap{}, false)
				return
			}
			n := 2 + int(b[1])
			if !yield(api.Cap{Code: b[0], Body: bytes.Clone(b[2:n])}, true) {
				return
			}
			b = b[n:]
		}
	}
}

func (r *reader) as() api.Errno {
	if len(r.caps) == 0 || r.caps[0].Code != asCode || len(r.caps[0].Body) != asSize {
		return api.ErrAs
	}
	r.open.As = number[uint32](r.caps[0].Body)
	if r.open.As == 0 || short(r.open.As) != number[uint32](r.bytes[1:3]) {
		return api.ErrAs
	}
	return api.OK
}

// Parse: P18.1.
func Parse(b []byte) (api.Open, api.Errno) {
	r := &reader{rest: rest{b}}
	e := api.OK
read:
	for _, step := range []func() api.Errno{r.size, r.version, r.hold, r.id, r.params, r.as} {
		switch e = step(); e {
		case api.OK:
		default:
			break read
		}
	}
	if e != api.OK {
		return api.Open{}, e
	}
	return r.open, api.OK
}
