package reasm_test

import (
	"bytes"
	"slices"
	"strings"
	"testing"

	"pursuivant/api"
	"pursuivant/reasm"
)

const top = int64(1) << 62

func heap(t *testing.T, most int) *reasm.Heap {
	t.Helper()
	h, e := reasm.New(most)
	if e != api.OK {
		t.Fatal(e)
	}
	return h
}

func puts(t *testing.T, h *reasm.Heap, at int64, data, told string, e api.Errno) {
	t.Helper()
	before := h.Copy()
	b, f := h.Put(at, []byte(data))
	if string(b) != told || f != e {
		t.Errorf("Put(%d; %s): %q %v", at, data, b, f)
	}
	if f != api.OK && !reasm.Same(h, before) {
		t.Errorf("Put(%d; %s) was refused, and changed something", at, data)
	}
}

// P15.1: how many pieces there may be.
func TestNew(t *testing.T) {
	for _, n := range []int{0, 1, 64} {
		h := heap(t, n)
		if h.Next() != 0 || h.Held() != 0 || len(h.Pieces()) != 0 || h.Done() {
			t.Error(n)
		}
	}
	for _, n := range []int{-1, 65, -1 << 63, 1<<63 - 1} {
		if h, e := reasm.New(n); h != nil || e != api.ErrArg {
			t.Error(n, h, e)
		}
	}
}

// P15.1: pieces that are told, kept, dropped.
func TestPut(t *testing.T) {
	h := heap(t, 2)
	puts(t, h, 3, "de", "", api.OK)
	puts(t, h, 0, "abc", "abcde", api.OK)
	if h.Next() != 5 || h.Held() != 0 {
		t.Error(h.Next(), h.Held())
	}
	puts(t, h, 4, "ex", "x", api.OK)
	puts(t, h, 0, "abc", "", api.OK)
	puts(t, h, 9, "x", "", api.OK)
	puts(t, h, 8, "y", "", api.OK)
	puts(t, h, 7, "z", "", api.ErrFull)
	puts(t, h, 9, "xx", "", api.ErrFull)
	puts(t, h, 9, "x", "", api.OK)
	puts(t, h, 9, "w", "", api.OK)
	if !slices.Equal(h.Pieces(), []int64{9, 8}) || h.Held() != 2 {
		t.Error(h.Pieces(), h.Held())
	}
	if h.End(11) != api.OK || h.End(10) != api.ErrEnd || h.End(11) != api.OK {
		t.Error("End")
	}
	puts(t, h, 9, "abc", "", api.ErrEnd)
	puts(t, h, 0, strings.Repeat("q", 12), "", api.ErrEnd)
	puts(t, h, 6, "uvwxyz"[:2], "uvyx", api.OK)
	if h.Done() || h.Next() != 10 {
		t.Error(h.Done(), h.Next())
	}
	puts(t, h, 10, "!", "!", api.OK)
	if !h.Done() || h.Next() != 11 {
		t.Error(h.Done(), h.Next())
	}
	puts(t, h, 11, "?", "", api.ErrEnd)
	puts(t, h, 10, "!", "", api.OK)
}

// P15.1: of pieces that begin at one place the elder one is told first; what is ahead of Next is cut off.
func TestOverlap(t *testing.T) {
	h := heap(t, 9)
	puts(t, h, 4, "45", "", api.OK)
	puts(t, h, 4, "ABCD", "", api.OK)
	puts(t, h, 2, "cdef", "", api.OK)
	puts(t, h, 8, "IJ", "", api.OK)
	puts(t, h, 3, "xyz", "", api.OK)
	puts(t, h, 0, "ab", "abcdefCDIJ", api.OK)
	if h.Next() != 10 || h.Held() != 0 {
		t.Error(h.Next(), h.Held(), h.Pieces())
	}
	h = heap(t, 9)
	puts(t, h, 2, "c", "", api.OK)
	puts(t, h, 2, "CD", "", api.OK)
	puts(t, h, 0, "ab", "abcD", api.OK)
}

// P15.1: wrong inputs, and the bounds of places.
func TestRefuse(t *testing.T) {
	h := heap(t, 3)
	long := strings.Repeat("l", 64)
	puts(t, h, -1, "a", "", api.ErrArg)
	puts(t, h, -1<<63, "a", "", api.ErrArg)
	puts(t, h, top+1, "a", "", api.ErrArg)
	puts(t, h, 1<<63-1, "a", "", api.ErrArg)
	puts(t, h, 0, "", "", api.ErrArg)
	puts(t, h, 0, long+"l", "", api.ErrArg)
	puts(t, h, 5, long, "", api.OK)
	puts(t, h, top-64, long, "", api.OK)
	for _, at := range []int64{-1, top + 1, 1<<63 - 1, -1 << 63} {
		if e := h.End(at); e != api.ErrArg {
			t.Error(at, e)
		}
	}
	if h.End(68) != api.ErrEnd || h.End(top-1) != api.ErrEnd || h.End(top) != api.OK {
		t.Error("an end ahead of a piece that is kept")
	}
	h = heap(t, 0)
	puts(t, h, 1, "b", "", api.ErrFull)
	puts(t, h, 0, "a", "a", api.OK)
	if h.End(0) != api.ErrEnd || h.End(1) != api.OK || !h.Done() {
		t.Error("an end ahead of Next")
	}
}

// P15.2: copies, what is the same, none.
func TestCopySame(t *testing.T) {
	h := heap(t, 3)
	data := []byte("cd")
	h.Put(2, data)
	data[0] = 'x'
	c := h.Copy()
	if !reasm.Same(h, c) {
		t.Error("a copy")
	}
	c.End(9)
	if reasm.Same(h, c) || h.End(8) != api.OK || reasm.Same(h, c) {
		t.Error("a copy's end")
	}
	c = h.Copy()
	puts(t, c, 0, "ab", "abcd", api.OK)
	if h.Next() != 0 || h.Held() != 2 || reasm.Same(h, c) {
		t.Error("a copy goes on apart")
	}
	puts(t, h, 0, "ab", "abcd", api.OK)
	if !reasm.Same(h, c) || reasm.Same(heap(t, 2), heap(t, 3)) {
		t.Error("Same")
	}
	p := h.Pieces()
	x, y := heap(t, 2), heap(t, 2)
	x.Put(1, []byte("a"))
	y.Put(1, []byte("b"))
	if reasm.Same(x, y) || len(p) != 0 {
		t.Error("other bytes")
	}
	refused, _ := reasm.New(-1)
	for _, none := range []*reasm.Heap{nil, {}, refused} {
		b, e := none.Put(-1, nil)
		if b != nil || e != api.ErrNil || none.End(-1) != api.ErrNil || none.Done() || none.Next() != 0 || none.Held() != 0 || none.Pieces() != nil || none.Copy() != nil {
			t.Error("none answers")
		}
		if reasm.Same(none, h) || reasm.Same(heap(t, 0), none) || !reasm.Same(none, nil) || !reasm.Same(nil, none) {
			t.Error("a nil one is like a nil one alone")
		}
	}
}

// P15.3: what is told is a beginning of the text, each byte once; at last it is all.
func TestFollows(t *testing.T) {
	text := make([]byte, 900)
	for i := range text {
		text[i] = byte(i * i)
	}
	x := uint32(3)
	pick := func(n int) int {
		x = x*1664525 + 1013904223
		return int(x >> 12 % uint32(n))
	}
	for most := range 9 {
		h := heap(t, most)
		var told []byte
		for range 2000 {
			at := int64(pick(len(text)))
			if pick(3) > 0 {
				at = h.Next() + int64(pick(40)) - 10
			}
			if at < 0 || at >= int64(len(text)) {
				continue
			}
			n := min(1+pick(64), len(text)-int(at))
			b, _ := h.Put(at, text[at:int(at)+n])
			told = append(told, b...)
			if !bytes.HasPrefix(text, told) || int64(len(told)) != h.Next() || len(h.Pieces()) > most {
				t.Fatal("no beginning", len(told), h.Next())
			}
		}
		for at := 0; at < len(text); at += 30 {
			b, _ := h.Put(int64(at), text[at:at+30])
			told = append(told, b...)
		}
		if h.End(900) != api.OK || !h.Done() || !bytes.Equal(told, text) {
			t.Error(most, len(told))
		}
	}
}
