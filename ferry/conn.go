package ferry

import (
	"slices"

	"ferry/api"
	"ferry/wire"
)

// Conn is one end of a connection.
type Conn struct {
	mine, theirs opener
	window       windows      // of all streams together
	control      []wire.Frame // that wait, ahead of every stream
	ring         []*stream    // of which something waits
	events       []api.Event  // that nobody has asked for
	in           []byte       // of a frame that has not come wholly
	coming       *block       // headers that have not come wholly, or nil
	pings        uint16       // the last ping's number
	leaving      bool         // this end takes no new streams
	peerLeaves   bool         // the peer takes none
	failed       bool
}

// block is packed headers that the peer is sending.
type block struct {
	stream int
	ends   bool // their Open had End
	bytes  []byte
}

// New gives an end (P5).
func New(client bool, streams int) (*Conn, api.Errno) {
	if streams < 0 || streams > api.MaxStreams {
		return nil, api.ErrConf
	}
	c := &Conn{
		mine:   opener{first: 1, most: 1, streams: map[int]*stream{}},
		theirs: opener{first: 2, most: streams, streams: map[int]*stream{}},
		window: windows{from: api.ConnWindow, to: api.ConnWindow},
	}
	if !client {
		c.mine.first, c.theirs.first = 2, 1
	}
	c.lay(api.Settings, 0, 0, byte(streams))
	return c, api.OK
}

// find is the stream of a number, whoever opens it. 0 and what is below are as a number that nobody has come to.
func (c *Conn) find(id int) *stream {
	switch {
	case c.mine.opens(id):
		return c.mine.find(id)
	case c.theirs.opens(id):
		return c.theirs.find(id)
	}
	return &stream{state: idle}
}

// lay lets a control frame wait.
func (c *Conn) lay(kind, flags, id int, body ...byte) {
	c.control = append(c.control, wire.Frame{Kind: kind, Flags: flags, Stream: id, Body: body})
}

// enter brings a stream into the ring. One that is there already keeps its place.
func (c *Conn) enter(s *stream) {
	if !slices.Contains(c.ring, s) {
		c.ring = append(c.ring, s)
	}
}

// place brings a stream into the ring or out of it, by whether something of it waits.
func (c *Conn) place(s *stream) {
	if s.waits() {
		c.enter(s)
		return
	}
	c.ring = slices.DeleteFunc(c.ring, func(other *stream) bool { return other == s })
}

func (c *Conn) tell(kind, id, code int) {
	c.events = append(c.events, api.Event{Kind: kind, Stream: id, Code: code})
}

// fail ends the connection. What the streams had to say is dropped; why it is over still goes out.
func (c *Conn) fail(code int) {
	c.failed = true
	for _, s := range c.ring {
		s.block, s.data = nil, nil
	}
	c.ring, c.in, c.coming = nil, nil, nil
	c.layAway(code)
	c.tell(api.Failed, 0, code)
}
