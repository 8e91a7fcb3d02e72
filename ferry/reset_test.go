package ferry

import (
	"slices"
	"testing"

	"ferry/api"
)

func resetFrame(id, code int) []byte { return frame(api.Reset, 0, id, byte(code)) }

func wantReset(t *testing.T, c *Conn, want api.Errno, ids ...int) {
	t.Helper()
	for _, id := range ids {
		if e := c.Reset(id); e != want {
			t.Errorf("P10: Reset(%d) = %d, want %d", id, e, want)
		}
	}
}

// wantBroken: every call of a stream that was reset answers that.
func wantBroken(t *testing.T, c *Conn, ids ...int) {
	t.Helper()
	wantUnwritable(t, c, api.ErrReset, ids...)
	wantUnreadable(t, c, api.ErrReset, ids...)
	wantNoNumber(t, c, api.ErrNumber, ids...)
	wantReset(t, c, api.ErrReset, ids...)
}

func TestResetOfEveryStream(t *testing.T) {
	s := allKinds(t)
	wantReset(t, s, api.ErrStream, nobodys()...)
	wantReset(t, s, api.ErrReset, 1, 11, 13)
	wantReset(t, s, api.ErrEnded, 5)
	s.In(frame(api.Open, 0, 19, 129))
	wantReset(t, s, api.ErrReset, 15, 17, 19)
	wantReset(t, s, api.ErrStream, 21)
	wantOut(t, s, far)
	s.In(frame(api.More, api.Whole, 19))
	wantReset(t, s, api.ErrReset, 19)
	wantOut(t, s, far, resetFrame(19, api.Refused))
	wantReset(t, s, api.ErrReset, 19)
	wantOut(t, s, far)
	for _, id := range []int{2, 3, 7, 9} {
		wantReset(t, s, api.OK, id)
		wantBroken(t, s, id)
		wantOut(t, s, far, resetFrame(id, api.Cancel))
		wantBroken(t, s, id)
		wantOut(t, s, far)
	}
	wantEvents(t, s)
	for _, id := range []int{3, 5, 7, 9} {
		wantHeaders(t, s, id, get())
	}
}

// What is told first is that there is no such stream, then that the connection is over.
func TestResetBehindAFailure(t *testing.T) {
	s := allKinds(t)
	wantReset(t, s, api.OK, 3)
	wantOut(t, s, far, resetFrame(3, api.Cancel))
	wantReset(t, s, api.OK, 7)
	s.In(frame(api.Open, 0, 19, 129))
	s.In([]byte{0, 65, 0, 0, 0, 0})
	wantReset(t, s, api.ErrGone, 1, 2, 3, 5, 7, 9, 11, 13, 15, 17, 19)
	wantReset(t, s, api.ErrStream, -1, 0, 4, 6, 21, 65535, far)
	wantUnreadable(t, s, api.ErrReset, 3, 7)
	wantUnwritable(t, s, api.ErrGone, 3, 7)
	wantFailure(t, s, 19, api.Size)
}

// Of a stream whose headers have not gone out the peer never hears.
func TestResetAheadOfTheHeaders(t *testing.T) {
	for _, waits := range []int{0, 10, api.MaxBuffer} {
		for _, ends := range []bool{false, true} {
			c, s := newEnd(t, true, 0), newEnd(t, false, 1)
			wantOpen(t, c, longest(), 1, api.OK)
			wantWrite(t, c, 1, make([]byte, waits), waits, api.OK)
			if ends {
				wantEnd(t, c, 1, api.OK)
			}
			wantOut(t, c, 99)
			wantReset(t, c, api.OK, 1)
			wantBroken(t, c, 1)
			wantOut(t, c, far)
			wantOpen(t, c, get(), 3, api.OK)
			wantOpen(t, c, get(), 0, api.ErrMany)
			wantWrite(t, c, 3, []byte("x"), 1, api.OK)
			s.In(c.Out(far))
			wantEvents(t, s, opened(3))
			wantNoStream(t, s, 1)
			wantBroken(t, s, 1)
			wantRead(t, s, 3, 9, []byte("x"))
			wantBroken(t, c, 1)
		}
	}
}

// All the others of the ring stay where they are.
func TestResetAheadOfTheHeadersOfOneOfMany(t *testing.T) {
	for gone := 1; gone < 8; gone += 2 {
		c := newEnd(t, true, 0)
		c.In(frame(api.Settings, 0, 0, 4))
		want := [][]byte{frame(api.Settings, api.Ack, 0)}
		for id := 1; id < 8; id += 2 {
			wantOpen(t, c, get(), id, api.OK)
			if id != gone {
				want = append(want, openFrame(id))
			}
		}
		wantOpen(t, c, get(), 0, api.ErrMany)
		wantReset(t, c, api.OK, gone)
		wantOpen(t, c, get(), 9, api.OK)
		wantOpen(t, c, get(), 0, api.ErrMany)
		wantOut(t, c, far, append(want, openFrame(9))...)
		wantOut(t, c, far)
	}
}

// What a peer that does not wait for headers has sent is dropped with the stream.
func TestResetAheadOfTheHeadersWithSomethingUnread(t *testing.T) {
	c := newEnd(t, true, 0)
	wantOpen(t, c, get(), 1, api.OK)
	c.In(dataFrame(1, 0, []byte("abc")))
	wantReset(t, c, api.OK, 1)
	wantOut(t, c, far, windowFrame(0, 3))
	c.In(dataFrame(1, api.End, []byte("de")))
	c.In(windowFrame(1, 65535))
	c.In(resetFrame(1, 9))
	wantEvents(t, c)
	wantOut(t, c, far, windowFrame(0, 2))
	wantOpen(t, c, get(), 3, api.OK)
	wantOut(t, c, far, openFrame(3))
}

// Numbers that are used up by streams that were reset are not given again.
func TestResetUpToMaxId(t *testing.T) {
	c := newEnd(t, true, 0)
	for id := 1; id <= api.MaxId; id += 2 {
		wantOpen(t, c, get(), id, api.OK)
		if id%3 == 0 {
			wantOut(t, c, far, openFrame(id))
			wantReset(t, c, api.OK, id)
			wantOut(t, c, far, resetFrame(id, api.Cancel))
		} else {
			wantReset(t, c, api.OK, id)
		}
	}
	wantOpen(t, c, get(), 0, api.ErrMany)
	wantOut(t, c, far)
	for id := 1; id <= api.MaxId; id += 2 {
		wantBroken(t, c, id)
	}
	wantReset(t, c, api.ErrStream, api.MaxId+2)
}

// A stream that is in the ring is reset where it stands; one that is not comes in behind the others.
func TestResetKeepsTheTurn(t *testing.T) {
	for _, ends := range []bool{false, true} {
		c := sender(t, 4)
		for _, id := range []int{5, 3, 7} {
			wantWrite(t, c, id, bytesFrom(id, 5), 5, api.OK)
		}
		if ends {
			wantEnd(t, c, 3, api.OK)
		}
		wantReset(t, c, api.OK, 1, 3)
		wantOut(t, c, far, dataFrame(5, 0, bytesFrom(5, 5)), resetFrame(3, api.Cancel), dataFrame(7, 0, bytesFrom(7, 5)), resetFrame(1, api.Cancel))
		wantOut(t, c, far)
	}
}

// The bytes and the end that waited are gone; those that have left stay sent.
func TestResetDropsWhatWaits(t *testing.T) {
	c := sender(t, 2)
	wantWrite(t, c, 1, bytesFrom(0, 200), 200, api.OK)
	wantOut(t, c, 6+30, dataFrame(1, 0, bytesFrom(0, 30)))
	wantEnd(t, c, 1, api.OK)
	wantReset(t, c, api.OK, 1)
	wantOut(t, c, far, resetFrame(1, api.Cancel))
	wantOut(t, c, far)
	// The window of all together is less by the 30 bytes alone.
	wantWrite(t, c, 3, bytesFrom(0, 130), 130, api.OK)
	c.In(windowFrame(3, 900))
	wantOut(t, c, far, dataFrame(3, 0, bytesFrom(0, 64)), dataFrame(3, 0, bytesFrom(64, 56)))
	c.In(windowFrame(0, 10))
	wantOut(t, c, far, dataFrame(3, 0, bytesFrom(120, 10)))
	// An end alone that waits.
	wantEnd(t, c, 3, api.OK)
	wantReset(t, c, api.OK, 3)
	wantOut(t, c, far, resetFrame(3, api.Cancel))
}

// A reset needs a head and one byte, no window, and keeps back what is behind it if there is no room.
func TestResetNeedsRoomAlone(t *testing.T) {
	for _, w := range []struct{ stream, all int }{{100, 100}, {0, 50}, {50, 0}, {0, 0}} {
		c := narrow(t, w.stream, w.all)
		wantWrite(t, c, 1, []byte("x"), 1, api.OK)
		wantReset(t, c, api.OK, 1)
		wantEnd(t, c, 3, api.OK)
		for _, room := range []int{-far, -1, 0, 5, 6} {
			wantOut(t, c, room)
		}
		wantOut(t, c, 7, resetFrame(1, api.Cancel))
		wantOut(t, c, 6, dataFrame(3, api.End, nil))
		wantOut(t, c, far)
	}
}

// A stream that could not go for want of a window goes when it is reset, in its old place.
func TestResetOfAStreamThatCannotGo(t *testing.T) {
	c := narrow(t, 0, 50)
	wantWrite(t, c, 1, []byte("kept back"), 9, api.OK)
	wantWrite(t, c, 3, bytesFrom(0, 9), 9, api.OK)
	wantOut(t, c, 7, dataFrame(3, 0, bytesFrom(0, 1)))
	wantReset(t, c, api.OK, 1)
	wantOut(t, c, far, resetFrame(1, api.Cancel), dataFrame(3, 0, bytesFrom(1, 8)))
}

func TestResetDropsWhatIsUnread(t *testing.T) {
	for _, size := range []int{0, 1, 63, 64, 65, 100} {
		for _, ends := range []bool{false, true} {
			for _, id := range []int{2, 3, 9} {
				s := allKinds(t)
				fill(s, id, size)
				if ends {
					s.In(dataFrame(id, api.End, nil))
				}
				if s.find(id).state == over {
					wantReset(t, s, api.ErrEnded, id)
					continue
				}
				s.Events()
				wantReset(t, s, api.OK, id)
				wantBroken(t, s, id)
				if size > 0 {
					wantOut(t, s, far, windowFrame(0, size), resetFrame(id, api.Cancel))
				} else {
					wantOut(t, s, far, resetFrame(id, api.Cancel))
				}
				wantEvents(t, s)
				wantWholeWindow(t, s)
			}
		}
	}
}

// wantWholeWindow: the peer of allKinds may send ConnWindow bytes, and not one more.
func wantWholeWindow(t *testing.T, s *Conn) {
	t.Helper()
	for range 3 {
		for _, size := range []int{64, 64, api.ConnWindow - 128} {
			s.In(dataFrame(1, 0, make([]byte, size)))
		}
		wantOut(t, s, far, windowFrame(0, 64), windowFrame(0, 64), windowFrame(0, api.ConnWindow-128))
	}
	if s.window.to != api.ConnWindow {
		t.Errorf("P10: the window of all together takes %d", s.window.to)
	}
}

// What was read is given back by Read, and what was not by Reset: no byte twice.
func TestResetBehindARead(t *testing.T) {
	s := allKinds(t)
	fill(s, 3, 90)
	wantRead(t, s, 3, 40, bytesFrom(0, 40))
	wantReset(t, s, api.OK, 3)
	wantOut(t, s, far, windowFrame(3, 40), windowFrame(0, 40), windowFrame(0, 50), resetFrame(3, api.Cancel))
	wantWholeWindow(t, s)
}

// A stream that is over keeps what is unread of it, whoever wants it reset.
func TestResetOfAStreamThatIsOver(t *testing.T) {
	c := sender(t, 1)
	wantEnd(t, c, 1, api.OK)
	wantOut(t, c, far, dataFrame(1, api.End, nil))
	c.In(dataFrame(1, api.End, []byte("unread")))
	wantReset(t, c, api.ErrEnded, 1)
	c.In(resetFrame(1, 9))
	wantEvents(t, c, ended(1))
	wantOut(t, c, far)
	wantRead(t, c, 1, 9, []byte("unread"))
	wantReset(t, c, api.ErrEnded, 1)
	wantUnreadable(t, c, api.ErrEnded, 1)
}

// An end that waits is none yet: such a stream is not over, though the peer has ended it.
func TestResetWhileTheEndWaits(t *testing.T) {
	s := newEnd(t, false, 1)
	s.In(frame(api.Open, api.Whole|api.End, 1, 129))
	wantEnd(t, s, 1, api.OK)
	wantReset(t, s, api.OK, 1)
	wantBroken(t, s, 1)
	wantOut(t, s, far, resetFrame(1, api.Cancel))
}

// Of a stream that was reset nothing is kept but the headers that the peer sent.
func TestNothingIsKeptOfStreamsThatWereReset(t *testing.T) {
	c := newEnd(t, true, 1)
	for id := 1; id < 60; id += 2 {
		wantOpen(t, c, get(), id, api.OK)
		if id%3 > 0 {
			c.Out(far)
			c.In(dataFrame(id, 0, []byte("unread")))
		}
		wantReset(t, c, api.OK, id)
		c.Out(far)
	}
	c.In(openFrame(2))
	for id := 4; id < 60; id += 2 {
		c.In(openFrame(id))
	}
	c.In(dataFrame(2, 0, []byte("unread")))
	c.In(resetFrame(2, 9))
	c.Out(far)
	if s := c.theirs.streams[2]; len(c.mine.streams) > 0 || len(c.theirs.streams) != 1 || s == nil || len(s.unread)+len(s.data) > 0 {
		t.Errorf("P10: %d and %d streams are kept", len(c.mine.streams), len(c.theirs.streams))
	}
	wantHeaders(t, c, 2, get())
}

// resets is ends with a stream that was reset, each in another way, and that stream. Limits of both are 1.
func resets(t *testing.T) map[string]func() (*Conn, int) {
	own := func() *Conn { return sender(t, 1) }
	peers := func() *Conn {
		s := newEnd(t, false, 1)
		s.In(openFrame(1))
		wantEvents(t, s, opened(1))
		return s
	}
	all := map[string]func() (*Conn, int){}
	for name, begin := range map[string]func() *Conn{"own": own, "the peer's": peers} {
		all[name+", reset here, told"] = func() (*Conn, int) {
			c := begin()
			wantReset(t, c, api.OK, 1)
			wantOut(t, c, far, resetFrame(1, api.Cancel))
			return c, 1
		}
		all[name+", ended and reset here, told"] = func() (*Conn, int) {
			c := begin()
			wantEnd(t, c, 1, api.OK)
			wantOut(t, c, far, dataFrame(1, api.End, nil))
			wantReset(t, c, api.OK, 1)
			wantOut(t, c, far, resetFrame(1, api.Cancel))
			return c, 1
		}
		all[name+", reset by the peer"] = func() (*Conn, int) {
			c := begin()
			c.In(resetFrame(1, 200))
			wantEvents(t, c, broke(1, 200))
			return c, 1
		}
		all[name+", reset here and by the peer"] = func() (*Conn, int) {
			c := begin()
			wantReset(t, c, api.OK, 1)
			c.In(resetFrame(1, 200))
			wantOut(t, c, far, resetFrame(1, api.Cancel))
			return c, 1
		}
	}
	all["own, reset ahead of the headers"] = func() (*Conn, int) {
		c := newEnd(t, true, 1)
		wantOpen(t, c, get(), 1, api.OK)
		wantReset(t, c, api.OK, 1)
		return c, 1
	}
	all["own, reset by the peer ahead of the headers"] = func() (*Conn, int) {
		c := newEnd(t, true, 1)
		wantOpen(t, c, get(), 1, api.OK)
		c.In(resetFrame(1, 200))
		wantEvents(t, c, broke(1, 200))
		return c, 1
	}
	all["left out"] = func() (*Conn, int) {
		s := newEnd(t, false, 2)
		s.In(openFrame(3))
		wantEvents(t, s, opened(3))
		return s, 1
	}
	all["refused"] = func() (*Conn, int) {
		s := newEnd(t, false, 0)
		s.In(openFrame(1))
		wantOut(t, s, far, resetFrame(1, api.Refused))
		return s, 1
	}
	return all
}

// Frames of a stream that was reset do nothing, but that the window of all together is given back; the stream does not count.
func TestFramesOfAStreamThatWasReset(t *testing.T) {
	for name, begin := range resets(t) {
		t.Run(name, func(t *testing.T) {
			c, id := begin()
			for _, size := range []int{0, 1, 64} {
				for _, flags := range []int{0, api.End} {
					c.In(dataFrame(id, flags, make([]byte, size)))
					if size > 0 {
						wantOut(t, c, far, windowFrame(0, size))
					}
				}
			}
			for range 3 {
				c.In(windowFrame(id, 65535))
				c.In(resetFrame(id, 9))
			}
			wantBroken(t, c, id)
			wantEvents(t, c)
			wantOut(t, c, far)
			if n := c.mine.counting; n != 0 {
				t.Errorf("P10: %d streams count", n)
			}
			next := c.mine.next()
			wantOpen(t, c, get(), next, api.OK)
			wantOut(t, c, far, openFrame(next))
			peers := c.theirs.first + 60
			c.In(openFrame(peers))
			if c.theirs.most > 0 {
				wantEvents(t, c, opened(peers))
			}
		})
	}
}

// While that it was reset waits, a stream is passed over just so, and its frame goes out as if nothing had come.
func TestFramesOfAStreamWhoseResetWaits(t *testing.T) {
	for _, ended := range []bool{false, true} {
		c := sender(t, 1)
		if ended {
			wantEnd(t, c, 1, api.OK)
			wantOut(t, c, far, dataFrame(1, api.End, nil))
		}
		wantReset(t, c, api.OK, 1)
		c.In(slices.Concat(dataFrame(1, 0, []byte("abc")), windowFrame(1, 65535), resetFrame(1, 9), dataFrame(1, api.End, nil), dataFrame(1, api.End, []byte("d"))))
		wantBroken(t, c, 1)
		wantEvents(t, c)
		wantOut(t, c, far, windowFrame(0, 3), windowFrame(0, 1), resetFrame(1, api.Cancel))
		wantBroken(t, c, 1)
		wantOut(t, c, far)
	}
}

// Even of a stream that was reset no more may come than the window of all together takes.
func TestDataAboveTheWindowForAStreamThatWasReset(t *testing.T) {
	s := newEnd(t, false, 3)
	for _, id := range []int{1, 3, 5} {
		s.In(openFrame(id))
	}
	fill(s, 1, 80)
	fill(s, 3, 60)
	wantReset(t, s, api.OK, 5)
	s.In(dataFrame(5, 0, make([]byte, 10)))
	wantEvents(t, s, opened(1), opened(3), opened(5))
	s.In(dataFrame(5, 0, make([]byte, 11)))
	wantEvents(t, s, failed(api.Flow))
	wantOut(t, s, far, windowFrame(0, 10), awayFrame(5, api.Flow))
}
