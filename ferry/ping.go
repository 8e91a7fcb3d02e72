package ferry

import (
	"ferry/api"
	"ferry/wire"
)

// Ping sends a ping (P11).
func (c *Conn) Ping() (int, api.Errno) {
	if c.failed {
		return 0, api.ErrGone
	}
	c.pings++
	c.lay(api.Ping, 0, 0, byte(c.pings>>8), byte(c.pings))
	return int(c.pings), api.OK
}

func (c *Conn) doPing(f wire.Frame) {
	switch {
	case f.Stream != 0:
		c.fail(api.Protocol)
	case len(f.Body) != 2:
		c.fail(api.Size)
	case f.Has(api.Ack):
		c.tell(api.Pong, 0, wire.Two(f.Body))
	default:
		c.lay(api.Ping, api.Ack, 0, f.Body[0], f.Body[1])
	}
}
