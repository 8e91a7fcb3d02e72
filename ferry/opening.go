package ferry

import (
	"ferry/api"
	"ferry/packing"
	"ferry/wire"
)

func (c *Conn) doOpen(f wire.Frame) {
	if !c.theirs.opens(f.Stream) || c.find(f.Stream).state != idle {
		c.fail(api.Protocol)
		return
	}
	c.theirs.last = f.Stream
	c.coming = &block{stream: f.Stream, ends: f.Has(api.End)}
	c.takeHeaders(f)
}

func (c *Conn) doMore(f wire.Frame) {
	if c.coming == nil {
		c.fail(api.Protocol)
		return
	}
	c.takeHeaders(f)
}

// takeHeaders joins what a frame brings of headers to what has come of them.
func (c *Conn) takeHeaders(f wire.Frame) {
	come := c.coming
	come.bytes = append(come.bytes, f.Body...)
	if len(come.bytes) > api.MaxBlock {
		c.fail(api.Size)
		return
	}
	if !f.Has(api.Whole) {
		return
	}
	headers, errno := packing.Unpack(come.bytes)
	if errno != api.OK {
		c.fail(api.Packing)
		return
	}
	c.coming = nil
	if c.theirs.full() || c.leaving {
		c.refuse(come.stream)
		return
	}
	c.accept(come, headers)
}

// refuse resets a stream that is one more than there may be. Nobody may ask for its headers, so that none are kept.
func (c *Conn) refuse(id int) {
	s := c.theirs.keep(id)
	s.breakHere(api.Refused)
	c.place(s)
}

func (c *Conn) accept(come *block, headers []api.Pair) {
	s := c.theirs.keep(come.stream)
	s.headers = headers
	c.tell(api.Opened, s.id, 0)
	if come.ends {
		c.takeEnd(s)
	}
}
