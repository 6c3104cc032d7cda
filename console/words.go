package console

import (
	"strconv"
	"strings"

	"pursuivant/api"
	"pursuivant/mac"
	"pursuivant/update"
)

const (
	mostSmall  = 1<<8 - 1
	mostHalf   = 1<<16 - 1
	mostNumber = 1<<32 - 1
	mostBytes  = 1000
	nothing    = "-"
	digits     = "0123456789abcdef"
)

// flaw is thrown where words are not such as must be, and caught at the face.
type flaw api.Errno

// words is those of a line that were not read yet.
type words struct{ left []string }

func wordsOf(line string) *words { return &words{strings.Split(line, " ")} }

// must: it is so, or the line may not be.
func (w *words) must(is bool) {
	if !is {
		panic(flaw(api.ErrLine))
	}
}

func (w *words) take() string {
	w.must(len(w.left) > 0)
	word := w.left[0]
	w.left = w.left[1:]
	return word
}

// upTo reads a number as it is written: digits alone, no noughts ahead.
func (w *words) upTo(most uint64) uint64 {
	word := w.take()
	n, err := strconv.ParseUint(word, 10, 64)
	w.must(err == nil && n <= most && strconv.FormatUint(n, 10) == word)
	return n
}

func (w *words) number() uint32 { return uint32(w.upTo(mostNumber)) }

// place is a number that picks, or tells a place.
func (w *words) place() int { return int(w.upTo(mostNumber)) }

func (w *words) half() uint16 { return uint16(w.upTo(mostHalf)) }

func (w *words) small() uint8 { return uint8(w.upTo(mostSmall)) }

// perhaps is a number, or none.
func (w *words) perhaps() (bool, uint32) {
	if len(w.left) > 0 && w.left[0] == nothing {
		w.take()
		return false, 0
	}
	return true, w.number()
}

func (w *words) inner() bool {
	word := w.take()
	w.must(word == "inner" || word == "outer")
	return word == "inner"
}

func (w *words) alg() api.Alg {
	alg, is := mac.Of(w.take())
	w.must(is)
	return alg
}

func (w *words) prefix() api.Prefix {
	p, e := update.Of(w.take())
	w.must(e == api.OK)
	return p
}

func (w *words) bytes() []byte {
	word := w.take()
	if word == nothing {
		return nil
	}
	w.must(len(word) > 0 && len(word)%2 == 0 && len(word)/2 <= mostBytes)
	var b []byte
	for i := 0; i < len(word); i += 2 {
		high, low := strings.IndexByte(digits, word[i]), strings.IndexByte(digits, word[i+1])
		w.must(high >= 0 && low >= 0)
		b = append(b, byte(high<<4|low))
	}
	return b
}
