package attrs

import (
	"iter"
	"slices"

	"pursuivant/api"
)

const (
	flagWide = 16 // the number of bytes has two bytes
	mostSlim = 255

	kindSet = 1
	kindRow = 2
)

// attribute is one of those that say something.
type attribute struct {
	code, flags uint8
	must        bool
	has         func(a *api.Attrs) bool
	lay         func(a *api.Attrs) []byte
	read        func(a *api.Attrs, v []byte) api.Errno
}

func always(*api.Attrs) bool { return true }

func attributes() []attribute {
	return []attribute{
		{1, 64, true, always, func(a *api.Attrs) []byte { return laid(a.Origin) }, readOrigin},
		{2, 64, true, always, func(a *api.Attrs) []byte { return pathBytes(a.Path...) }, readPath},
		{3, 64, true, always, func(a *api.Attrs) []byte { return laid(a.Next) }, readNext},
		{4, 128, false, func(a *api.Attrs) bool { return a.HasMed }, func(a *api.Attrs) []byte { return laid(a.Med) }, readMed},
		{5, 64, false, func(a *api.Attrs) bool { return a.HasPref }, func(a *api.Attrs) []byte { return laid(a.Pref) }, readPref},
		{8, 192, false, func(a *api.Attrs) bool { return len(a.Tags) > 0 }, func(a *api.Attrs) []byte { return laid(a.Tags...) }, readTags},
	}
}

// laid is numbers as bytes, the highest byte of each ahead.
func laid[N uint8 | uint16 | uint32](numbers ...N) []byte {
	var b []byte
	for _, n := range numbers {
		from := len(b)
		for all := uint64(^N(0)); all > 0; all >>= 8 {
			b = append(b, byte(n))
			n = N(uint64(n) >> 8)
		}
		slices.Reverse(b[from:])
	}
	return b
}

func pathBytes(path ...api.Leg) []byte {
	var b []byte
	for _, l := range path {
		kind := byte(kindRow)
		if l.Set {
			kind = kindSet
		}
		b = append(b, kind, byte(len(l.As)))
		b = append(b, laid(l.As...)...)
	}
	return b
}

// Raw: P19.1.
func Raw(a api.Attrs) ([]byte, api.Errno) {
	if e := Check(a); e != api.OK {
		return nil, e
	}
	var b []byte
	for _, t := range attributes() {
		if !t.has(&a) {
			continue
		}
		v := t.lay(&a)
		if len(v) > mostSlim {
			b = append(b, t.flags|flagWide, t.code)
			b = append(b, laid(uint16(len(v)))...)
		} else {
			b = append(b, t.flags, t.code, byte(len(v)))
		}
		b = append(b, v...)
	}
	return b, api.OK
}

// numbers takes numbers of four bytes out of a value, as many as are asked for; false, if there are too few bytes.
func numbers(v []byte) func(n int) ([]uint32, bool) {
	return func(n int) ([]uint32, bool) {
		if len(v) < 4*n {
			return nil, false
		}
		var l []uint32
		for range n {
			l = append(l, uint32(v[0])<<24|uint32(v[1])<<16|uint32(v[2])<<8|uint32(v[3]))
			v = v[4:]
		}
		return l, true
	}
}

func readOrigin(a *api.Attrs, v []byte) api.Errno {
	if len(v) != 1 {
		return api.ErrBytes
	}
	if v[0] > mostOrigin {
		return api.ErrOrigin
	}
	a.Origin = v[0]
	return api.OK
}

func readPath(a *api.Attrs, v []byte) api.Errno {
	wrong := false
	for len(v) > 0 {
		if len(v) < 2 {
			return api.ErrBytes
		}
		kind, n := v[0], int(v[1])
		as, whole := numbers(v[2:])(n)
		if !whole {
			return api.ErrBytes
		}
		wrong = wrong || kind != kindSet && kind != kindRow
		a.Path = append(a.Path, api.Leg{Set: kind == kindSet, As: as})
		v = v[2+4*n:]
	}
	if wrong || !rightPath(a.Path) {
		return api.ErrPath
	}
	return api.OK
}

// one reads a value that is one number.
func one(to *uint32, v []byte) api.Errno {
	l, whole := numbers(v)(1)
	if !whole || len(v) != 4 {
		return api.ErrBytes
	}
	*to = l[0]
	return api.OK
}

func readNext(a *api.Attrs, v []byte) api.Errno {
	if e := one(&a.Next, v); e != api.OK {
		return e
	}
	if a.Next == 0 {
		return api.ErrNext
	}
	return api.OK
}

func readMed(a *api.Attrs, v []byte) api.Errno {
	a.HasMed = true
	return one(&a.Med, v)
}

func readPref(a *api.Attrs, v []byte) api.Errno {
	a.HasPref = true
	return one(&a.Pref, v)
}

func readTags(a *api.Attrs, v []byte) api.Errno {
	if len(v) == 0 || len(v)%4 != 0 {
		return api.ErrBytes
	}
	a.Tags, _ = numbers(v)(len(v) / 4)
	if !rightTags(a.Tags) {
		return api.ErrTags
	}
	return api.OK
}

// item is an attribute as it stands among bytes.
type item struct {
	flags, code uint8
	value       []byte
}

// rest is the bytes that were not read yet.
type rest struct{ bytes []byte }

// reader reads attributes.
type reader struct {
	rest
	attrs api.Attrs
	last  uint8 // the code of the one ahead
	needs []uint8
}

// items goes over attributes; behind one that is not whole comes no other one.
func (r *reader) items() iter.Seq2[item, api.Errno] {
	return func(yield func(item, api.Errno) bool) {
		for len(r.bytes) > 0 {
			t, e := r.item()
			if !yield(t, e) {
				return
			}
		}
	}
}

func (r *reader) item() (item, api.Errno) {
	b := r.bytes
	if len(b) < 3 {
		return item{}, api.ErrList
	}
	head, n := 3, int(b[2])
	if b[0]&flagWide != 0 {
		if len(b) < 4 {
			return item{}, api.ErrList
		}
		head, n = 4, n<<8|int(b[3])
	}
	if len(b) < head+n {
		return item{}, api.ErrList
	}
	r.bytes = b[head+n:]
	return item{b[0], b[1], b[head : head+n]}, api.OK
}

// read reads one, and tells what is wrong with it first.
func (r *reader) read(t item) api.Errno {
	all := attributes()
	at := slices.IndexFunc(all, func(a attribute) bool { return a.code == t.code })
	if at < 0 {
		return api.ErrCode
	}
	wide := uint8(0)
	if len(t.value) > mostSlim {
		wide = flagWide
	}
	if t.flags != all[at].flags|wide {
		return api.ErrFlags
	}
	if t.code <= r.last {
		return api.ErrRise
	}
	r.last = t.code
	r.needs = slices.DeleteFunc(r.needs, func(code uint8) bool { return code == t.code })
	return all[at].read(&r.attrs, t.value)
}

// Parse: P19.1.
func Parse(b []byte) (api.Attrs, api.Errno) {
	r := &reader{rest: rest{b}}
	for _, t := range attributes() {
		if t.must {
			r.needs = append(r.needs, t.code)
		}
	}
	flaw := api.OK
all:
	for t, e := range r.items() {
		if e == api.OK {
			e = r.read(t)
		}
		switch e {
		case api.OK:
		default:
			flaw = e
			break all
		}
	}
	if flaw == api.OK && len(r.needs) > 0 {
		flaw = api.ErrLack
	}
	if flaw != api.OK {
		return api.Attrs{}, flaw
	}
	return r.attrs, api.OK
}
