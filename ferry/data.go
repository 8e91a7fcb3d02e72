package ferry

import (
	"slices"

	"ferry/api"
)

// Write takes data that is to be sent on a stream (P8).
func (c *Conn) Write(id int, data []byte) (int, api.Errno) {
	s := c.find(id)
	if errno := c.unwritable(s); errno != api.OK {
		return 0, errno
	}
	size := min(len(data), api.MaxBuffer-len(s.data))
	if size > 0 {
		s.data = append(s.data, data[:size]...)
		c.enter(s)
	}
	return size, api.OK
}

// End ends a stream, in one direction (P8).
func (c *Conn) End(id int) api.Errno {
	s := c.find(id)
	if errno := c.unwritable(s); errno != api.OK {
		return errno
	}
	s.ends = true
	c.enter(s)
	return api.OK
}

// unwritable is why nothing more can be said on a stream, or OK.
func (c *Conn) unwritable(s *stream) api.Errno {
	switch {
	case s.state == idle:
		return api.ErrStream
	case c.failed:
		return api.ErrGone
	case s.state.wasReset():
		return api.ErrReset
	case s.ends:
		return api.ErrEnded
	}
	return api.OK
}

// Read takes data that came on a stream (P9).
func (c *Conn) Read(id int, most int) ([]byte, api.Errno) {
	s := c.find(id)
	switch {
	case s.state == idle:
		return nil, api.ErrStream
	case most < 0:
		return nil, api.ErrNumber
	case s.state.wasReset():
		return nil, api.ErrReset
	case len(s.unread) == 0 && s.state.hasPeersEnd():
		return nil, api.ErrEnded
	}
	size := min(most, len(s.unread))
	data := slices.Clone(s.unread[:size])
	s.unread = s.unread[size:]
	if size > 0 && !c.failed {
		c.giveBack(s, size)
	}
	return data, api.OK
}

// giveBack gives the windows what was read. A stream on which nothing can come any more needs none.
func (c *Conn) giveBack(s *stream, size int) {
	if !s.state.hasPeersEnd() {
		c.give(&s.window, s.id, size)
	}
	c.give(&c.window, 0, size)
}
