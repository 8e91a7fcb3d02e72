package ferry

import (
	"ferry/api"
	"ferry/packing"
	"ferry/wire"
)

// Events tells what has happened (P13).
func (c *Conn) Events() []api.Event {
	told := c.events
	c.events = nil
	return told
}

// In takes bytes that came from the peer (P13).
func (c *Conn) In(b []byte) {
	if c.failed {
		return
	}
	c.in = append(c.in, b...)
	for !c.failed {
		f, rest, came := wire.Cut(c.in)
		switch came {
		case wire.Partly:
			return
		case wire.TooLong:
			c.fail(api.Size)
		case wire.Wholly:
			c.in = rest
			c.do(f)
		}
	}
}

// do does what a frame asks for (P14).
func (c *Conn) do(f wire.Frame) {
	if c.coming != nil && (f.Kind != api.More || f.Stream != c.coming.stream) {
		c.fail(api.Protocol)
		return
	}
	done := [api.Window + 1]func(*Conn, wire.Frame){
		api.Open:     (*Conn).doOpen,
		api.More:     (*Conn).doMore,
		api.Settings: (*Conn).doSettings,
	}
	if f.Kind < len(done) && done[f.Kind] != nil {
		done[f.Kind](c, f)
	}
}

func (c *Conn) doOpen(f wire.Frame) {
	if !c.theirs.opens(f.Stream) || c.theirs.stateOf(f.Stream) != idle {
		c.fail(api.Protocol)
		return
	}
	c.theirs.last = f.Stream
	c.coming = &block{stream: f.Stream, ends: f.Has(api.End)}
	c.takeHeaders(f)
}

func (c *Conn) doMore(f wire.Frame) {
	if c.coming == nil {
		c.fail(api.Protocol)
		return
	}
	c.takeHeaders(f)
}

// takeHeaders joins what a frame brings of headers to what has come of them.
func (c *Conn) takeHeaders(f wire.Frame) {
	come := c.coming
	come.bytes = append(come.bytes, f.Body...)
	if len(come.bytes) > api.MaxBlock {
		c.fail(api.Size)
		return
	}
	if !f.Has(api.Whole) {
		return
	}
	headers, errno := packing.Unpack(come.bytes)
	if errno != api.OK {
		c.fail(api.Packing)
		return
	}
	c.coming = nil
	if c.theirs.full() {
		c.refuse(come.stream)
		return
	}
	c.accept(come, headers)
}

// refuse resets a stream that is one more than there may be.
func (c *Conn) refuse(id int) {
	s := c.theirs.begin(id, breaking)
	s.code = api.Refused
	c.ring = append(c.ring, s)
}

func (c *Conn) accept(come *block, headers []api.Pair) {
	s := c.theirs.begin(come.stream, open)
	s.headers = headers
	c.tell(api.Opened, s.id, 0)
	if come.ends {
		s.move(endedThere)
		c.tell(api.Ended, s.id, 0)
	}
}

func (c *Conn) doSettings(f wire.Frame) {
	switch {
	case f.Stream != 0:
		c.fail(api.Protocol)
	case f.Has(api.Ack):
		if len(f.Body) > 0 {
			c.fail(api.Size)
		}
	case len(f.Body) != 1:
		c.fail(api.Size)
	case f.Body[0] > api.MaxStreams:
		c.fail(api.Protocol)
	default:
		c.mine.most = int(f.Body[0])
		c.lay(api.Settings, api.Ack)
	}
}
