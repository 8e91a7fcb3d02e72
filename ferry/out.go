package ferry

// Out tells bytes that go to the peer, at most so many (P12).
func (c *Conn) Out(room int) []byte {
	var out []byte
	for len(c.control) > 0 {
		f := c.control[0]
		if f.Size() > room-len(out) {
			return out
		}
		out = f.Append(out)
		c.control = c.control[1:]
	}
	for len(c.ring) > 0 {
		frames := c.ring[0].turn(room - len(out))
		if len(frames) == 0 {
			return out
		}
		out = append(out, frames...)
		c.ring = c.ring[1:]
	}
	return out
}
