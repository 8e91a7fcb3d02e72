package ferry

import (
	"slices"

	"ferry/api"
	"ferry/wire"
)

// Out tells bytes that go to the peer, at most so many (P12).
func (c *Conn) Out(room int) []byte {
	var out []byte
	for len(c.control) > 0 {
		f := c.control[0]
		if f.Size() > room-len(out) {
			return out
		}
		out = f.Append(out)
		c.control = c.control[1:]
	}
	for {
		place := slices.IndexFunc(c.ring, c.canGo)
		if place < 0 {
			return out
		}
		frames := c.turn(c.ring[place], room-len(out))
		if len(frames) == 0 {
			return out
		}
		out = append(out, frames...)
		c.leave(place)
	}
}

// canGo tells whether a stream of the ring may have the turn: a window keeps back bytes, and nothing else.
func (c *Conn) canGo(s *stream) bool {
	return s.block != nil || len(s.data) == 0 || min(s.window.from, c.window.from) > 0
}

// turn gives the frames of a stream's turn; none, if there is no room for them.
func (c *Conn) turn(s *stream, room int) []byte {
	switch {
	case s.block != nil:
		return s.headersTurn(room)
	case s.state.tellsReset():
		return s.resetTurn(room)
	}
	return c.dataTurn(s, room)
}

// dataTurn gives a Data frame; none, if there is no room for a head and, where bytes wait, one of them.
func (c *Conn) dataTurn(s *stream, room int) []byte {
	if room < api.Header+min(len(s.data), 1) {
		return nil
	}
	size := min(len(s.data), api.MaxFrame, s.window.from, c.window.from, room-api.Header)
	f := wire.Frame{Kind: api.Data, Stream: s.id, Body: s.data[:size]}
	s.data = s.data[size:]
	s.window.from -= size
	c.window.from -= size
	if len(s.data) == 0 && s.ends {
		f.Flags = api.End
		s.endHere()
	}
	return f.Append(nil)
}

// leave takes the stream at a place of the ring, whose turn is over, out of it. If something waits still, it comes in again, behind all others.
func (c *Conn) leave(place int) {
	s := c.ring[place]
	c.ring = slices.Delete(c.ring, place, place+1)
	if s.waits() {
		c.enter(s)
	}
}
