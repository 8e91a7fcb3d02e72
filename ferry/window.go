package ferry

import "ferry/api"

// windows is how many bytes of data may be sent, in each direction.
type windows struct {
	from int // this end
	to   int // this end
}

// take takes bytes that came from the window to this end. False: they are more than it takes.
func (w *windows) take(size int) bool {
	if size > w.to {
		return false
	}
	w.to -= size
	return true
}

// widen lets this end send so many bytes more, as far as a window may be.
func (c *Conn) widen(w *windows, size int) {
	if w.from+size > api.MaxWindow {
		c.fail(api.Flow)
		return
	}
	w.from += size
}

// give lets the peer send so many bytes more on the stream of that number, or, for 0, on all together.
func (c *Conn) give(w *windows, id, size int) {
	w.to += size
	c.lay(api.Window, 0, id, byte(size>>8), byte(size))
}
