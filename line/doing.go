package line

import (
	"pursuivant/ao"
	"pursuivant/api"
	"pursuivant/keys"
	"pursuivant/msg"
	"pursuivant/stream"
)

// doing is a call of a line under way: what it sends, and tells.
type doing struct {
	*Line
	keys    *keys.Keys
	segs    []api.Seg
	tidings []api.Tiding
}

// goes: these segments are to be sent.
func (d *doing) goes(l ...api.Seg) { d.segs = append(d.segs, l...) }

// send sends what a connection's stream sends, as its guard does.
func (d *doing) send(c *conn, parts ...api.Part) {
	for _, p := range parts {
		s, e := c.guard.Out(d.keys, api.Seg{Flags: p.Flags, Seq: p.Seq, Ack: p.Ack, Window: p.Window, Data: p.Data})
		if e == api.OK {
			d.goes(s)
		}
	}
}

// stir stirs the session, and does what it does.
func (d *doing) stir(by api.Stir) {
	for _, deed := range d.stirred(by) {
		d.deeds()[deed.Kind](deed)
	}
}

func (d *doing) deeds() map[api.DeedKind]func(deed api.Deed) {
	return map[api.DeedKind]func(deed api.Deed){
		api.DeedCall:   d.call,
		api.DeedListen: d.listen,
		api.DeedDrop:   d.drop,
		api.DeedSay:    d.say,
		api.DeedOpen:   d.open,
		api.DeedUpdate: d.update,
		api.DeedClose:  d.close,
	}
}

func (d *doing) call(api.Deed) { d.connect(true) }

func (d *doing) listen(api.Deed) { d.connect(false) }

// connect makes a new connection, in place of the one that is there.
func (d *doing) connect(calls bool) {
	d.letGo()
	g, e := ao.New(d.keys, api.Conn{Local: d.line.Local, Peer: d.line.Peer, LocalPort: port, PeerPort: port, LocalISN: d.isn})
	if e != api.OK {
		return
	}
	end, parts := stream.New(d.isn, calls)
	d.isn += isnStep
	d.conn = &conn{guard: g, stream: end, reader: msg.New()}
	d.send(d.conn, parts...)
}

// letGo: there is no connection; what its guard dropped is kept in mind.
func (l *Line) letGo() {
	if l.conn == nil {
		return
	}
	drops := l.conn.guard.State().Drops
	for why := api.DropEnds; why <= api.DropTag; why++ {
		l.dropped[why] += drops[why]
	}
	l.conn = nil
}

func (d *doing) drop(api.Deed) {
	for d.write() {
	}
	if c := d.conn; c != nil {
		parts, _ := c.stream.Reset()
		d.send(c, parts...)
	}
	d.letGo()
	d.waits = nil
}

func (d *doing) say(deed api.Deed) { d.wait(deed.Message) }

// wait: the message waits to be written.
func (d *doing) wait(m api.Message) {
	b, _ := msg.Raw(m)
	d.waits = append(d.waits, b)
}

func (d *doing) tell(t api.Tiding) { d.tidings = append(d.tidings, t) }

func (d *doing) open(deed api.Deed) {
	d.tell(api.Tiding{Kind: api.DeedOpen, Session: deed.Session})
}

func (d *doing) update(deed api.Deed) {
	d.tell(api.Tiding{Kind: api.DeedUpdate, Update: deed.Message.Update})
}

func (d *doing) close(api.Deed) {
	d.tell(api.Tiding{Kind: api.DeedClose})
	d.waits = nil
}

// take: a segment that was not dropped comes to the stream.
func (d *doing) take(s api.Seg) {
	c := d.conn
	parts, _ := c.stream.Come(api.Part{Flags: s.Flags, Seq: s.Seq, Ack: s.Ack, Window: s.Window, Data: s.Data})
	// What is sent goes by the peer's ISN: that is learned ahead of it.
	end, known := c.stream.State(), c.guard.State()
	heard := end.At == api.StreamHeard || end.At == api.StreamOpen
	if heard && (!known.Learned || known.PeerISN != end.Peer) {
		c.guard.Learn(end.Peer)
	}
	d.send(c, parts...)
}

// steps is what may be so behind a call; each tells whether it was, and did what is to be done then.
func (d *doing) steps() [4]func() bool {
	return [...]func() bool{d.opened, d.ended, d.writes, d.hears}
}

// settle goes on as long as something is so.
func (d *doing) settle() {
	for d.step() {
	}
}

func (d *doing) step() bool {
	for _, so := range d.steps() {
		if so() {
			return true
		}
	}
	return false
}

func (d *doing) opened() bool {
	c := d.conn
	if c.at() != api.StreamOpen || c.opened {
		return false
	}
	c.opened = true
	d.stir(api.Stir{Kind: api.StirUp})
	return true
}

func (d *doing) ended() bool {
	if d.conn.at() != api.StreamDone {
		return false
	}
	d.letGo()
	d.stir(api.Stir{Kind: api.StirDown})
	return true
}

func (d *doing) writes() bool { return d.conn.at() == api.StreamOpen && d.write() }

// write writes the first message that waits, if there is one, and the stream takes it.
func (d *doing) write() bool {
	c := d.conn
	if c == nil || len(d.waits) == 0 {
		return false
	}
	parts, e := c.stream.Write(d.waits[0])
	if e != api.OK {
		return false
	}
	d.waits = d.waits[1:]
	d.send(c, parts...)
	return true
}

func (d *doing) hears() bool {
	c := d.conn
	if c == nil {
		return false
	}
	unread := c.stream.State().Unread > 0
	if unread {
		b, parts := c.stream.Read()
		c.reader.Write(b)
		d.send(c, parts...)
	}
	m, is, e := c.reader.Next()
	switch {
	case is && m.Kind == api.MsgOpen && m.Open.Id != d.line.PeerId:
		d.stir(api.Stir{Kind: api.StirFlaw, Flaw: api.ErrId})
	case is:
		d.stir(api.Stir{Kind: api.StirMessage, Message: m})
	case e != api.OK && !c.flawed:
		c.flawed = true
		d.stir(api.Stir{Kind: api.StirFlaw, Flaw: e})
	default:
		return unread
	}
	return true
}
