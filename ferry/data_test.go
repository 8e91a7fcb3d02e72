package ferry

import (
	"slices"
	"testing"

	"ferry/api"
)

func TestDataOfNoStream(t *testing.T) {
	for _, id := range []int{0, 4, 6, 15, 17, 65534, 65535} {
		for _, flags := range []int{0, api.End, 255} {
			for _, size := range []int{0, 1, 64} {
				s := allKinds(t)
				s.In(dataFrame(id, flags, make([]byte, size)))
				wantFailure(t, s, 13, api.Protocol)
			}
		}
	}
	// What is wrong with the stream is told ahead of what is wrong with the window.
	for _, id := range []int{0, 15} {
		s := allKinds(t)
		fill(s, 3, 90)
		fill(s, 9, 60)
		s.In(dataFrame(id, 0, []byte("x")))
		wantFailure(t, s, 13, api.Protocol)
	}
}

// fill sends so many bytes of data for a stream.
func fill(c *Conn, id, size int) {
	for piece := range slices.Chunk(bytesFrom(0, size), api.MaxFrame) {
		c.In(dataFrame(id, 0, piece))
	}
}

// Data that comes is unread, in order, the windows less by it.
func TestDataIsUnread(t *testing.T) {
	s := allKinds(t)
	for _, id := range []int{2, 3, 9} {
		s.In(dataFrame(id, 0, []byte("ab")))
		s.In(dataFrame(id, 254, nil))
		s.In(dataFrame(id, 0, []byte("c")))
		if to := s.find(id).window.to; to != api.StreamWindow-3 {
			t.Errorf("P14: the window of %d takes %d", id, to)
		}
	}
	if to := s.window.to; to != api.ConnWindow-9 {
		t.Errorf("P14: all windows together take %d", to)
	}
	wantOut(t, s, far)
	wantEvents(t, s)
	for _, id := range []int{9, 2, 3} {
		wantRead(t, s, id, 9, []byte("abc"))
	}
}

// Of the flags only End means something.
func TestDataFlags(t *testing.T) {
	for flags := range 256 {
		for _, data := range []string{"", "x"} {
			s := newEnd(t, false, 1)
			s.In(openFrame(1))
			s.In(dataFrame(1, flags, []byte(data)))
			if flags&api.End != 0 {
				wantEvents(t, s, opened(1), ended(1))
			} else {
				wantEvents(t, s, opened(1))
			}
			if data != "" {
				wantRead(t, s, 1, 9, []byte(data))
			}
			if flags&api.End != 0 {
				wantUnreadable(t, s, api.ErrEnded, 1)
			} else {
				wantUnreadable(t, s, api.OK, 1)
			}
		}
	}
}

// Data of a stream that was reset is dropped; all together may send as much again.
func TestDataOfAStreamThatWasReset(t *testing.T) {
	for _, id := range []int{1, 11, 13} {
		s := allKinds(t)
		for range 5 {
			for _, flags := range []int{0, api.End} {
				s.In(dataFrame(id, flags, nil))
				wantOut(t, s, far)
				s.In(dataFrame(id, flags, make([]byte, 1)))
				wantOut(t, s, far, windowFrame(0, 1))
				s.In(dataFrame(id, flags, make([]byte, 64)))
				s.In(dataFrame(id, flags, make([]byte, 36)))
				wantOut(t, s, far, windowFrame(0, 64), windowFrame(0, 36))
			}
		}
		wantEvents(t, s)
		wantUnreadable(t, s, api.ErrReset, id)
	}
	s := newEnd(t, false, 0)
	s.In(openFrame(3))
	s.In(dataFrame(3, api.End, []byte("refused")))
	wantOut(t, s, far, windowFrame(0, 7), frame(api.Reset, 0, 3, api.Refused))
	wantEvents(t, s)
}

// The window of all together holds for streams that were reset and for those that have ended, too.
func TestDataAboveTheWindowOfAllTogether(t *testing.T) {
	for _, c := range []struct {
		id, unread, size int
		code             int
	}{
		{9, 50, 100, 0}, {9, 86, 64, 0}, {9, 86, 65, api.Flow}, {9, 99, 51, 0}, {9, 99, 52, api.Flow},
		{1, 87, 63, 0}, {1, 87, 64, api.Flow}, {11, 87, 64, api.Flow}, {13, 87, 63, 0}, {13, 87, 64, api.Flow},
		{5, 87, 63, api.Closed}, {5, 87, 64, api.Flow}, {7, 87, 63, api.Closed}, {7, 87, 64, api.Flow}, {7, 87, 0, api.Closed},
	} {
		s := allKinds(t)
		fill(s, 3, c.unread)
		if c.size > api.MaxFrame {
			s.In(dataFrame(c.id, 0, make([]byte, c.size-api.MaxFrame)))
			c.size = api.MaxFrame
		}
		wantEvents(t, s)
		s.In(dataFrame(c.id, 0, make([]byte, c.size)))
		if c.code != 0 {
			wantFailure(t, s, 13, c.code)
			continue
		}
		wantEvents(t, s)
	}
}

func TestDataAboveAStreamsWindow(t *testing.T) {
	for _, flags := range []int{0, api.End} {
		for _, id := range []int{2, 3, 9} {
			s := allKinds(t)
			fill(s, id, 64)
			s.In(dataFrame(id, flags, make([]byte, 37)))
			wantFailure(t, s, 13, api.Flow)
			wantRead(t, s, id, far, bytesFrom(0, 64))
			wantRead(t, s, id, far, nil)
			s = allKinds(t)
			fill(s, id, 64)
			s.In(dataFrame(id, flags, make([]byte, 36)))
			if flags == 0 {
				wantEvents(t, s)
				s.In(dataFrame(id, 0, nil))
				wantEvents(t, s)
				s.In(dataFrame(id, 0, make([]byte, 1)))
				wantFailure(t, s, 13, api.Flow)
			} else {
				wantEvents(t, s, ended(id))
			}
		}
	}
}

// What is read may be sent again as soon as the Window frame waits, be it gone out or not.
func TestDataBehindARead(t *testing.T) {
	for _, more := range []int{0, 1} {
		s := allKinds(t)
		fill(s, 3, 100)
		wantRead(t, s, 3, 40, bytesFrom(0, 40))
		s.In(dataFrame(3, 0, make([]byte, 40+more)))
		if more == 0 {
			wantEvents(t, s)
			wantOut(t, s, far, windowFrame(3, 40), windowFrame(0, 40))
			continue
		}
		wantEvents(t, s, failed(api.Flow))
		wantOut(t, s, far, windowFrame(3, 40), windowFrame(0, 40), awayFrame(13, api.Flow))
	}
	for _, more := range []int{0, 1} {
		s := allKinds(t)
		fill(s, 3, 60)
		fill(s, 9, 90)
		wantRead(t, s, 3, 10, bytesFrom(0, 10))
		s.In(dataFrame(2, 0, make([]byte, 10+more)))
		if more == 0 {
			wantEvents(t, s)
		} else {
			wantEvents(t, s, failed(api.Flow))
		}
	}
}

func TestDataBehindThePeersEnd(t *testing.T) {
	for _, id := range []int{5, 7} {
		for _, flags := range []int{0, api.End} {
			for _, size := range []int{0, 1, 64} {
				s := allKinds(t)
				s.In(dataFrame(id, flags, make([]byte, size)))
				wantFailure(t, s, 13, api.Closed)
			}
		}
	}
	// That it is over its window, too, is told behind that.
	s := newEnd(t, false, 1)
	s.In(openFrame(1))
	fill(s, 1, 50)
	s.In(dataFrame(1, api.End, make([]byte, 50)))
	wantEvents(t, s, opened(1), ended(1))
	s.In(dataFrame(1, 0, make([]byte, 1)))
	wantFailure(t, s, 1, api.Closed)
	wantRead(t, s, 1, 50, bytesFrom(0, 50))
	wantRead(t, s, 1, 99, make([]byte, 50))
	wantUnreadable(t, s, api.ErrEnded, 1)
}

// This end's own end, gone out or not, does not keep data from coming.
func TestDataBehindOnesOwnEnd(t *testing.T) {
	c := newEnd(t, true, 0)
	wantOpen(t, c, get(), 1, api.OK)
	wantEnd(t, c, 1, api.OK)
	c.In(dataFrame(1, 0, []byte("a")))
	wantOut(t, c, far, openFrame(1), dataFrame(1, api.End, nil))
	c.In(dataFrame(1, 0, []byte("b")))
	c.In(dataFrame(1, api.End, []byte("c")))
	wantEvents(t, c, ended(1))
	wantRead(t, c, 1, 9, []byte("abc"))
	wantOut(t, c, far, windowFrame(0, 3))
	c.In(dataFrame(1, 0, nil))
	wantFailure(t, c, 0, api.Closed)
}
