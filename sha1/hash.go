package sha1

import (
	"iter"

	"pursuivant/api"
)

// rest is what is left of a block that is not whole yet.
type rest struct {
	bytes [blockSize]byte
	n     int
}

// blocks goes over the whole blocks of what is left and of the parts; what is not a whole one is left.
func (r *rest) blocks(parts ...[]byte) iter.Seq[[blockSize]byte] {
	return func(yield func([blockSize]byte) bool) {
		for _, p := range parts {
			for len(p) > 0 {
				n := copy(r.bytes[r.n:], p)
				p = p[n:]
				r.n += n
				if r.n < blockSize {
					break
				}
				r.n = 0
				if !yield(r.bytes) {
					return
				}
			}
		}
	}
}

// Hash is a sum under way.
type Hash struct {
	rest
	state [5]uint32
	size  int64
	made  bool
}

func (h *Hash) none() bool { return h == nil || !h.made }

// New: P1.3.
func New() *Hash { return &Hash{state: First(), made: true} }

// Write: P1.3.
func (h *Hash) Write(b []byte) api.Errno {
	if h.none() {
		return api.ErrNil
	}
	h.size += int64(len(b))
	for block := range h.blocks(b) {
		h.state = Block(h.state, block)
	}
	return api.OK
}

// Sum: P1.3.
func (h *Hash) Sum() [20]byte {
	var sum [20]byte
	if h.none() {
		return sum
	}
	tail, _ := Tail(h.size)
	end := *h
	for block := range end.blocks(tail) {
		end.state = Block(end.state, block)
	}
	for i, w := range end.state {
		copy(sum[4*i:], laid(w, 4))
	}
	return sum
}

// Len: P1.3.
func (h *Hash) Len() int64 {
	if h.none() {
		return 0
	}
	return h.size
}

// Copy: P1.3.
func (h *Hash) Copy() *Hash {
	if h.none() {
		return nil
	}
	other := *h
	return &other
}
