package ferry

import (
	"slices"

	"ferry/api"
	"ferry/packing"
)

// Open opens a stream (P6).
func (c *Conn) Open(headers []api.Pair) (int, api.Errno) {
	packed, errno := packing.Pack(headers)
	id := c.mine.next()
	switch {
	case errno != api.OK:
		return 0, errno
	case c.failed || c.peerLeaves || c.leaving:
		return 0, api.ErrGone
	case c.mine.full() || id > api.MaxId:
		return 0, api.ErrMany
	}
	c.mine.last = id
	s := c.mine.keep(id)
	s.block = packed
	c.enter(s)
	return id, api.OK
}

// Headers tells the headers of a stream that the peer opened (P7).
func (c *Conn) Headers(id int) ([]api.Pair, api.Errno) {
	s := c.theirs.streams[id]
	if s == nil || s.headers == nil {
		return nil, api.ErrStream
	}
	return slices.Clone(s.headers), api.OK
}
