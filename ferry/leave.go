package ferry

import (
	"ferry/api"
	"ferry/wire"
)

// Away takes no new streams any more (P11).
func (c *Conn) Away() api.Errno {
	if c.failed || c.leaving {
		return api.ErrGone
	}
	c.leaving = true
	c.layAway(api.None)
	return api.OK
}

// layAway lets a frame wait that says up to which of its streams the peer was heard, and why it is not any more.
func (c *Conn) layAway(code int) {
	c.lay(api.Away, 0, 0, byte(c.theirs.last>>8), byte(c.theirs.last), byte(code))
}

func (c *Conn) doAway(f wire.Frame) {
	switch {
	case f.Stream != 0:
		c.fail(api.Protocol)
	case len(f.Body) != 3:
		c.fail(api.Size)
	default:
		c.peerLeaves = true
		c.tell(api.Leaving, wire.Two(f.Body), int(f.Body[2]))
	}
}
