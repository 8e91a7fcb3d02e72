package ferry

import (
	"slices"
	"testing"

	"ferry/api"
)

func wantAway(t *testing.T, c *Conn, want api.Errno) {
	t.Helper()
	if e := c.Away(); e != want {
		t.Errorf("P11: Away = %d, want %d", e, want)
	}
}

func leaving(id, code int) api.Event { return api.Event{Kind: api.Leaving, Stream: id, Code: code} }

// The number is the greatest that the peer has come to: refused or not, its headers come wholly or not.
func TestAwayTellsTheGreatestNumber(t *testing.T) {
	for _, c := range []struct {
		last    int
		streams int
		ahead   []byte
	}{
		{0, 1, nil}, {1, 1, openFrame(1)}, {7, 1, openFrame(7)}, {7, 0, openFrame(7)}, {513, 3, openFrame(513)}, {65535, 6, openFrame(65535)},
		{9, 3, append(openFrame(3), frame(api.Open, 0, 9, 129)...)}, {3, 3, slices.Concat(openFrame(1), openFrame(3), resetFrame(3, 9))},
	} {
		s := newEnd(t, false, c.streams)
		wantOpen(t, s, get(), 2, api.OK)
		s.In(c.ahead)
		s.Out(far)
		wantAway(t, s, api.OK)
		for range 3 {
			wantAway(t, s, api.ErrGone)
		}
		wantOut(t, s, 8)
		wantOut(t, s, far, []byte{0, 3, 6, 0, 0, 0, byte(c.last >> 8), byte(c.last), 0})
		wantAway(t, s, api.ErrGone)
		wantOut(t, s, far)
	}
}

func TestAwayBehindAFailure(t *testing.T) {
	c := newEnd(t, true, 1)
	c.In([]byte{0, 65, 0, 0, 0, 0})
	wantAway(t, c, api.ErrGone)
	wantFailure(t, c, 0, api.Size)
	wantAway(t, c, api.ErrGone)
}

// An end that was leaving says once more why it is over.
func TestFailureBehindAway(t *testing.T) {
	s := newEnd(t, false, 1)
	wantAway(t, s, api.OK)
	s.In(openFrame(5))
	s.In(openFrame(5))
	wantEvents(t, s, failed(api.Protocol))
	wantOut(t, s, far, awayFrame(0, api.None), awayFrame(5, api.Protocol))
	wantOver(t, s)
}

func TestOpenBehindAway(t *testing.T) {
	for _, told := range []bool{false, true} {
		c := newEnd(t, true, 1)
		wantOpen(t, c, get(), 1, api.OK)
		wantAway(t, c, api.OK)
		if told {
			wantOut(t, c, far, awayFrame(0, api.None), openFrame(1))
		}
		wantOpen(t, c, nil, 0, api.ErrHeader)
		wantOpen(t, c, get(), 0, api.ErrGone)
		c.In(frame(api.Settings, 0, 0, 6))
		wantOpen(t, c, get(), 0, api.ErrGone)
		if !told {
			wantOut(t, c, far, awayFrame(0, api.None), frame(api.Settings, api.Ack, 0), openFrame(1))
		}
	}
}

// The peer is leaving, whatever the number and the code are that it tells.
func TestOpenBehindThePeersAway(t *testing.T) {
	for _, number := range []int{0, 1, 99, 65535} {
		for _, code := range []int{api.None, api.Size, 255} {
			c := newEnd(t, true, 1)
			c.In(frame(api.Settings, 0, 0, 6))
			wantOpen(t, c, get(), 1, api.OK)
			wantWrite(t, c, 1, []byte("x"), 1, api.OK)
			c.In(awayFrame(number, code))
			wantEvents(t, c, leaving(number, code))
			wantOpen(t, c, nil, 0, api.ErrHeader)
			wantOpen(t, c, get(), 0, api.ErrGone)
			// What was opened ahead of that goes on.
			wantOut(t, c, far, frame(api.Settings, api.Ack, 0), openFrame(1), dataFrame(1, 0, []byte("x")))
			wantWrite(t, c, 1, []byte("y"), 1, api.OK)
			wantEnd(t, c, 1, api.OK)
			wantOut(t, c, far, dataFrame(1, api.End, []byte("y")))
			// The peer's streams may come still.
			c.In(openFrame(2))
			wantEvents(t, c, opened(2))
			wantAway(t, c, api.OK)
			wantOut(t, c, far, awayFrame(2, api.None))
		}
	}
}

// A stream that comes to an end that is leaving is refused; those that have come go on.
func TestStreamsThatComeBehindAway(t *testing.T) {
	for _, ends := range []int{0, api.End} {
		s := newEnd(t, false, 6)
		s.In(openFrame(1))
		s.In(frame(api.Open, 0, 3, 129))
		wantAway(t, s, api.OK)
		wantOut(t, s, far, awayFrame(3, api.None))
		s.In(frame(api.More, api.Whole, 3))
		s.In(frame(api.Open, api.Whole|ends, 5, 129))
		s.In(dataFrame(5, 0, []byte("dropped")))
		s.In(dataFrame(1, api.End, []byte("abc")))
		wantEvents(t, s, opened(1), ended(1))
		wantNoStream(t, s, 3, 5)
		wantBroken(t, s, 3, 5)
		wantRead(t, s, 1, 9, []byte("abc"))
		wantWrite(t, s, 1, []byte("x"), 1, api.OK)
		wantOut(t, s, far, windowFrame(0, 7), windowFrame(0, 3), resetFrame(3, api.Refused), resetFrame(5, api.Refused), dataFrame(1, 0, []byte("x")))
		wantHeaders(t, s, 1, get())
		// Headers that are wrong are so for an end that is leaving, too.
		s.In(frame(api.Open, api.Whole, 7))
		wantFailure(t, s, 7, api.Packing)
	}
}

// Every Away frame is told, and no flag of it means something.
func TestAwayFramesThatComeOften(t *testing.T) {
	c := newEnd(t, true, 1)
	for flags := range 256 {
		c.In(frame(api.Away, flags, 0, byte(flags), 7, byte(255-flags)))
		wantEvents(t, c, leaving(flags<<8+7, 255-flags))
	}
	wantOut(t, c, far)
}

func TestAwayFramesThatMayNotBe(t *testing.T) {
	for _, flags := range []int{0, 1, 255} {
		for _, size := range []int{0, 1, 2, 4, api.MaxFrame} {
			s := allKinds(t)
			s.In(frame(api.Away, flags, 0, make([]byte, size)...))
			wantFailure(t, s, 13, api.Size)
		}
		for _, id := range []int{1, 2, 3, 5, 15, 256, 65535} {
			for _, size := range []int{0, 2, 3, 4} {
				s := allKinds(t)
				s.In(frame(api.Away, flags, id, make([]byte, size)...))
				wantFailure(t, s, 13, api.Protocol)
			}
		}
	}
}

// One end leaves while streams of the other are on their way to it: these are refused, and no connection fails.
func TestAwayOfTwoEnds(t *testing.T) {
	c, s := newEnd(t, true, 3), newEnd(t, false, 3)
	c.In(frame(api.Settings, 0, 0, 3))
	c.Out(far)
	for id := 1; id < 5; id += 2 {
		wantOpen(t, c, get(), id, api.OK)
		wantWrite(t, c, id, []byte("abc"), 3, api.OK)
	}
	s.In(c.Out(7 + 7 + 9))
	wantAway(t, s, api.OK)
	wantOpen(t, c, get(), 5, api.OK)
	carry(c, s, 5)
	wantEvents(t, s, opened(1), opened(3))
	carry(s, c, 5)
	wantEvents(t, c, leaving(3, api.None), broke(5, api.Refused))
	wantRead(t, s, 1, 9, []byte("abc"))
	wantRead(t, s, 3, 9, []byte("abc"))
	wantBroken(t, c, 5)
	wantBroken(t, s, 5)
	wantAway(t, c, api.OK)
	carry(c, s, 5)
	wantEvents(t, s, leaving(0, api.None))
}
