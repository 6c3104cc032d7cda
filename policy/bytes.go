package policy

import (
	"bytes"
	"slices"

	"pursuivant/api"
)

const (
	bitTag = 1 << iota
	bitDeny
	bitPref
	bitMed
	bitAdd
)

// part is a part of a rule that has a place of its own.
type part struct {
	size int
	lay  func(r *api.Rule) []byte
	read func(r *api.Rule, b []byte)
}

// byted is a part that is a byte, worded one that is a word.
func byted(at func(r *api.Rule) *uint8) part {
	return part{1, func(r *api.Rule) []byte { return laid(*at(r)) }, func(r *api.Rule, b []byte) { *at(r) = number[uint8](b) }}
}

func worded(at func(r *api.Rule) *uint32) part {
	return part{4, func(r *api.Rule) []byte { return laid(*at(r)) }, func(r *api.Rule, b []byte) { *at(r) = number[uint32](b) }}
}

func parts() []part {
	return []part{
		worded(func(r *api.Rule) *uint32 { return &r.Cover.Addr }),
		byted(func(r *api.Rule) *uint8 { return &r.Cover.Len }),
		byted(func(r *api.Rule) *uint8 { return &r.Least }),
		byted(func(r *api.Rule) *uint8 { return &r.Most }),
		{1, func(r *api.Rule) []byte { return laid(bitsOf(*r)) }, func(r *api.Rule, b []byte) { setBits(r, number[uint8](b)) }},
		worded(func(r *api.Rule) *uint32 { return &r.Tag }),
		worded(func(r *api.Rule) *uint32 { return &r.As }),
		worded(func(r *api.Rule) *uint32 { return &r.Pref }),
		worded(func(r *api.Rule) *uint32 { return &r.Med }),
		worded(func(r *api.Rule) *uint32 { return &r.Add }),
		byted(func(r *api.Rule) *uint8 { return &r.Times }),
	}
}

func bitsOf(r api.Rule) uint8 {
	return bit(r.HasTag, bitTag) | bit(r.Deny, bitDeny) | bit(r.HasPref, bitPref) | bit(r.HasMed, bitMed) | bit(r.HasAdd, bitAdd)
}

func bit(has bool, b uint8) uint8 {
	if has {
		return b
	}
	return 0
}

func setBits(r *api.Rule, bits uint8) {
	has := func(b uint8) bool { return bits&b != 0 }
	r.HasTag, r.Deny, r.HasPref, r.HasMed, r.HasAdd = has(bitTag), has(bitDeny), has(bitPref), has(bitMed), has(bitAdd)
}

// laid is numbers as bytes, the highest byte of each ahead.
func laid[N uint8 | uint32](numbers ...N) []byte {
	var b []byte
	for _, n := range numbers {
		from := len(b)
		for all := uint64(^N(0)); all > 0; all >>= 8 {
			b = append(b, byte(n))
			n = N(uint64(n) >> 8)
		}
		slices.Reverse(b[from:])
	}
	return b
}

// number reads bytes, the highest ahead.
func number[N uint8 | uint32](b []byte) N {
	var n uint32
	for _, x := range b {
		n = n<<8 | uint32(x)
	}
	return N(n)
}

// Raw: P23.3.
func Raw(p api.Policy) ([]byte, api.Errno) {
	if e := Check(p); e != api.OK {
		return nil, e
	}
	b := laid(bit(p.Else, 1))
	for _, r := range each(p) {
		for _, t := range parts() {
			b = append(b, t.lay(&r)...)
		}
	}
	return b, api.OK
}

// ruleOf reads a rule; false, if its bytes have more than it tells: a bit that none has.
func ruleOf(b []byte) (api.Rule, bool) {
	var r api.Rule
	whole := true
	for _, t := range parts() {
		t.read(&r, b[:t.size])
		whole = whole && bytes.Equal(t.lay(&r), b[:t.size])
		b = b[t.size:]
	}
	return r, whole
}

// Parse: P23.3.
func Parse(b []byte) (api.Policy, api.Errno) {
	size := 0
	for _, t := range parts() {
		size += t.size
	}
	if len(b) < 1 || b[0] > 1 || (len(b)-1)%size != 0 || len(b) > 1+mostRules*size {
		return api.Policy{}, api.ErrRule
	}
	p := api.Policy{Else: b[0] == 1}
	for rule := range slices.Chunk(b[1:], size) {
		r, is := ruleOf(rule)
		if !is {
			return api.Policy{}, api.ErrRule
		}
		p.Rules = append(p.Rules, r)
	}
	if Check(p) != api.OK {
		return api.Policy{}, api.ErrRule
	}
	return p, api.OK
}
