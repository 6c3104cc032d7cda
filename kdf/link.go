package kdf

import (
	"iter"
	"slices"

	"pursuivant/api"
)

// half is one end of a connection.
type half struct {
	addr  uint32
	port  uint16
	first uint32
}

type near struct{ half }

type far struct{ half }

// ends is a connection as one end sees it.
type ends struct {
	near
	far
}

func endsOf(l api.Link) ends {
	return ends{near{half{l.Own, l.OwnPort, l.OwnFirst}}, far{half{l.Other, l.OtherPort, l.OtherFirst}}}
}

func (e ends) turned() ends { return ends{near{e.far.half}, far{e.near.half}} }

// syn is the connection as long as the other end's number is not known.
func (e ends) syn() ends {
	e.far.first = 0
	return e
}

func (e ends) link() api.Link {
	return api.Link{
		Own: e.near.addr, Other: e.far.addr,
		OwnPort: e.near.port, OtherPort: e.far.port,
		OwnFirst: e.near.first, OtherFirst: e.far.first,
	}
}

// Context: P6.2.
func Context(l api.Link) []byte {
	return slices.Concat(
		laid(l.Own), laid(l.Other),
		laid(l.OwnPort), laid(l.OtherPort),
		laid(l.OwnFirst), laid(l.OtherFirst))
}

// Turned: P6.2.
func Turned(l api.Link) api.Link { return endsOf(l).turned().link() }

// each goes over the connections that the four keys are made of.
func (e ends) each() iter.Seq2[int, api.Link] {
	return func(yield func(int, api.Link) bool) {
		for i, of := range [...]ends{e.syn(), e.turned().syn(), e, e.turned()} {
			if !yield(i, of.link()) {
				return
			}
		}
	}
}

// Keys: P6.2.
func Keys(alg api.Alg, master []byte, l api.Link) (api.Four, api.Errno) {
	made := func(of api.Link) ([]byte, api.Errno) { return Key(alg, master, Context(of)) }
	var keys [4][]byte
	fault := api.OK
all:
	for i, of := range endsOf(l).each() {
		key, e := made(of)
		switch e {
		case api.OK:
			keys[i] = key
		default:
			fault = e
			break all
		}
	}
	if fault != api.OK {
		return api.Four{}, fault
	}
	return api.Four{SendSyn: keys[0], TakeSyn: keys[1], Send: keys[2], Take: keys[3]}, api.OK
}
