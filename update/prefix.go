package update

import (
	"cmp"
	"slices"
	"strconv"
	"strings"

	"pursuivant/api"
)

const (
	addrBits = 32
	addrSize = 4
	mostByte = 255
)

// mask is the bits of an address that count.
func mask(length uint8) uint32 {
	return ^uint32(0) << (addrBits - length) // of 0 all bits go out
}

// Right: P20.1.
func Right(p api.Prefix) bool { return p.Len <= addrBits && p.Addr&^mask(p.Len) == 0 }

// Covers: P20.1.
func Covers(p, q api.Prefix) bool {
	return Right(p) && Right(q) && p.Len <= q.Len && api.Prefix{Addr: q.Addr & mask(p.Len), Len: p.Len} == p
}

// Compare: P20.1.
func Compare(p, q api.Prefix) int {
	return cmp.Or(cmp.Compare(p.Addr, q.Addr), cmp.Compare(p.Len, q.Len))
}

// Sort: P20.1.
func Sort(l ...api.Prefix) []api.Prefix {
	var right []api.Prefix
	for _, p := range l {
		if Right(p) {
			right = append(right, p)
		}
	}
	slices.SortFunc(right, Compare)
	return slices.Compact(right)
}

// laid is a number as bytes, the highest ahead.
func laid[N uint16 | uint32](n N) []byte {
	var b []byte
	for all := ^N(0); all > 0; all >>= 8 {
		b = append(b, byte(n))
		n >>= 8
	}
	slices.Reverse(b)
	return b
}

// Text: P20.1.
func Text(p api.Prefix) string {
	if !Right(p) {
		return ""
	}
	var parts []string
	for _, b := range laid(p.Addr) {
		parts = append(parts, strconv.Itoa(int(b)))
	}
	return strings.Join(parts, ".") + "/" + strconv.Itoa(int(p.Len))
}

// decimal reads a number as it is written: digits alone, no noughts ahead.
func decimal(text string, most int) (int, bool) {
	n, err := strconv.Atoi(text)
	return n, err == nil && n >= 0 && n <= most && strconv.Itoa(n) == text
}

// Of: P20.1.
func Of(text string) (api.Prefix, api.Errno) {
	head, tail, _ := strings.Cut(text, "/")
	length, is := decimal(tail, addrBits)
	parts := strings.Split(head, ".")
	if !is || len(parts) != addrSize {
		return api.Prefix{}, api.ErrText
	}
	p := api.Prefix{Len: uint8(length)}
	for _, part := range parts {
		n, is := decimal(part, mostByte)
		if !is {
			return api.Prefix{}, api.ErrText
		}
		p.Addr = p.Addr<<8 | uint32(n)
	}
	if !Right(p) {
		return api.Prefix{}, api.ErrText
	}
	return p, api.OK
}
