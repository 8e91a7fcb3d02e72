package ferry

import (
	"ferry/api"
	"ferry/wire"
)

// Events tells what has happened (P13).
func (c *Conn) Events() []api.Event {
	told := c.events
	c.events = nil
	return told
}

// In takes bytes that came from the peer (P13).
func (c *Conn) In(b []byte) {
	if c.failed {
		return
	}
	c.in = append(c.in, b...)
	for !c.failed {
		f, rest, came := wire.Cut(c.in)
		switch came {
		case wire.Partly:
			return
		case wire.TooLong:
			c.fail(api.Size)
		case wire.Wholly:
			c.in = rest
			c.do(f)
		}
	}
}

// do does what a frame asks for (P14).
func (c *Conn) do(f wire.Frame) {
	if c.coming != nil && (f.Kind != api.More || f.Stream != c.coming.stream) {
		c.fail(api.Protocol)
		return
	}
	done := [api.Window + 1]func(*Conn, wire.Frame){
		api.Data:     (*Conn).doData,
		api.Open:     (*Conn).doOpen,
		api.More:     (*Conn).doMore,
		api.Reset:    (*Conn).doReset,
		api.Settings: (*Conn).doSettings,
		api.Ping:     (*Conn).doPing,
		api.Away:     (*Conn).doAway,
		api.Window:   (*Conn).doWindow,
	}
	if f.Kind < len(done) {
		done[f.Kind](c, f)
	}
}

func (c *Conn) doData(f wire.Frame) {
	s, size := c.find(f.Stream), len(f.Body)
	switch {
	case s.state == idle:
		c.fail(api.Protocol)
	case !c.window.take(size):
		c.fail(api.Flow)
	case s.state.wasReset():
		c.passOver(s, f)
	case s.state.hasPeersEnd():
		c.fail(api.Closed)
	case !s.window.take(size):
		c.fail(api.Flow)
	default:
		s.unread = append(s.unread, f.Body...)
		if f.Has(api.End) {
			c.takeEnd(s)
		}
	}
}

// passOver lets go data of a stream that was reset.
func (c *Conn) passOver(s *stream, f wire.Frame) {
	if size := len(f.Body); size > 0 {
		c.give(&c.window, 0, size)
	}
	if f.Has(api.End) {
		s.endThere()
	}
}

func (c *Conn) takeEnd(s *stream) {
	s.endThere()
	c.tell(api.Ended, s.id, 0)
}

func (c *Conn) doSettings(f wire.Frame) {
	switch {
	case f.Stream != 0:
		c.fail(api.Protocol)
	case f.Has(api.Ack):
		if len(f.Body) > 0 {
			c.fail(api.Size)
		}
	case len(f.Body) != 1:
		c.fail(api.Size)
	case f.Body[0] > api.MaxStreams:
		c.fail(api.Protocol)
	default:
		c.mine.most = int(f.Body[0])
		c.lay(api.Settings, api.Ack, 0)
	}
}

func (c *Conn) doWindow(f wire.Frame) {
	s := c.find(f.Stream)
	switch {
	case f.Stream != 0 && s.state == idle:
		c.fail(api.Protocol)
	case len(f.Body) != 2:
		c.fail(api.Size)
	case wire.Two(f.Body) == 0:
		c.fail(api.Protocol)
	case f.Stream == 0:
		c.widen(&c.window, wire.Two(f.Body))
	case s.state.sends():
		c.widen(&s.window, wire.Two(f.Body))
	}
}
