package console

import (
	"strconv"
	"strings"

	"pursuivant/api"
	"pursuivant/attrs"
	"pursuivant/decide"
	"pursuivant/seg"
	"pursuivant/update"
)

const none = "none"

// told is words, a blank between each two.
func told(words ...string) string { return strings.Join(words, " ") }

// list tells a list, one by one; none, if there is nothing in it.
func list[T any](l []T, tell func(x T) string) string {
	if len(l) == 0 {
		return none
	}
	var words []string
	for _, x := range l {
		words = append(words, tell(x))
	}
	return told(words...)
}

// decimal is a number as it is written.
func decimal[N int | uint8 | uint32](n N) string { return strconv.FormatInt(int64(n), 10) }

func route(r api.Route) string {
	of := "own"
	if r.Peer != (api.Peer{}) {
		of = decimal(r.Peer.Id)
	}
	var path []string
	for _, as := range attrs.Systems(r.Attrs) {
		path = append(path, decimal(as))
	}
	if len(path) == 0 {
		path = []string{nothing}
	}
	return update.Text(r.Prefix) + "=" + of + ":" + strings.Join(path, ",")
}

func readRoutes(w *words) asking {
	who := w.place()
	return func(c *Console) (string, api.Errno) {
		s, e := c.world.Speaker(who)
		var l []api.Route
		for _, b := range s.Rib().All() {
			l = append(l, b.Route)
		}
		return list(l, route), e
	}
}

func readBest(w *words) asking {
	who, addr := w.place(), w.number()
	return func(c *Console) (string, api.Errno) {
		s, e := c.world.Speaker(who)
		b, is := s.Rib().To(addr)
		if !is {
			return none, e
		}
		why, _ := decide.Name(b.Why)
		return told(route(b.Route), why, decimal(b.Many)), e
	}
}

// session is the name of where a session is.
func session(at api.FsmAt) string {
	names := [...]string{
		api.FsmIdle: "idle", api.FsmConnect: "connect", api.FsmActive: "active",
		api.FsmOpenSent: "opensent", api.FsmOpenConfirm: "openconfirm", api.FsmEstablished: "established",
	}
	return names[at]
}

// stream is the name of where a stream is; none, if there is no connection.
func stream(at api.StreamAt) string {
	names := [...]string{
		api.StreamNone: none, api.StreamListen: "listen", api.StreamCalls: "calls",
		api.StreamHeard: "heard", api.StreamOpen: "open", api.StreamDone: "done",
	}
	return names[at]
}

func state(l api.LineState) string {
	wanted := "not"
	if l.Wanted {
		wanted = "wanted"
	}
	var drops []string
	for why := api.DropEnds; why <= api.DropTag; why++ {
		drops = append(drops, decimal(l.Dropped[why]))
	}
	return told(session(l.Fsm.At), stream(l.Stream.At), wanted, decimal(l.Waits), strings.Join(drops, "."))
}

func readLine(w *words) asking {
	who, n := w.place(), w.place()
	return func(c *Console) (string, api.Errno) {
		s, e := c.world.Speaker(who)
		lines := s.State().Lines
		if e == api.OK && n >= len(lines) {
			e = api.ErrRange
		}
		if e != api.OK {
			return "", e
		}
		return state(lines[n]), api.OK
	}
}

func readCounts(w *words) asking {
	who := w.place()
	return func(c *Console) (string, api.Errno) {
		s, e := c.world.Speaker(who)
		x := s.State()
		return told(decimal(x.Bad), decimal(x.Strange), decimal(x.Routes)), e
	}
}

func readKeys(w *words) asking {
	who := w.place()
	return func(c *Console) (string, api.Errno) {
		s, e := c.world.Speaker(who)
		return list(s.Keys().All(), func(m api.Mkt) string {
			return decimal(m.Peer) + ":" + decimal(m.Send) + ":" + decimal(m.Recv)
		}), e
	}
}

func readBag(*words) asking {
	return func(c *Console) (string, api.Errno) {
		return list(c.world.Bag(), func(b []byte) string { return decimal(len(b)) }), api.OK
	}
}

func flags(of api.Flags) string {
	text := ""
	for i, f := range [...]api.Flags{api.Syn, api.Ack, api.Fin, api.Rst} {
		if of&f != 0 {
			text += "safr"[i : i+1]
		}
	}
	if text == "" {
		return nothing
	}
	return text
}

func datagram(b []byte) string {
	s, e := seg.Parse(b)
	if e != api.OK {
		return "junk"
	}
	auth := nothing
	if s.Has {
		auth = decimal(s.Auth.Key) + "." + decimal(s.Auth.Next)
	}
	return told(decimal(s.From)+">"+decimal(s.To), flags(s.Flags), auth, decimal(len(s.Data)))
}

func readDatagram(w *words) asking {
	n := w.place()
	return func(c *Console) (string, api.Errno) {
		bag := c.world.Bag()
		if len(bag) == 0 {
			return "", api.ErrNone
		}
		return datagram(bag[n%len(bag)]), api.OK
	}
}
