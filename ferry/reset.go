package ferry

import (
	"ferry/api"
	"ferry/wire"
)

// Reset gives a stream up (P10).
func (c *Conn) Reset(id int) api.Errno {
	s := c.find(id)
	switch {
	case s.state == idle:
		return api.ErrStream
	case c.failed:
		return api.ErrGone
	case s.state.wasReset():
		return api.ErrReset
	case s.state == over:
		return api.ErrEnded
	}
	s.breakHere(api.Cancel)
	c.drop(s)
	return api.OK
}

func (c *Conn) doReset(f wire.Frame) {
	s := c.find(f.Stream)
	switch {
	case s.state == idle:
		c.fail(api.Protocol)
	case len(f.Body) != 1:
		c.fail(api.Size)
	case s.state.tellsReset():
		// Both have reset it: this end's frame goes out still, but the peer counts the stream no more, so this end may not either.
		s.move(parting)
	case s.state != over && s.state != broken:
		s.move(broken)
		c.drop(s)
		c.tell(api.Broken, s.id, int(f.Body[0]))
	}
}

// drop lets go what waits and what is unread of a stream that was reset. Of the ring it keeps its place only if that it was reset waits.
func (c *Conn) drop(s *stream) {
	s.block, s.data = nil, nil
	c.place(s)
	if size := len(s.unread); size > 0 {
		s.unread = nil
		c.give(&c.window, 0, size)
	}
}
