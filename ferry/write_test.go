package ferry

import (
	"math"
	"slices"
	"testing"

	"ferry/api"
)

// bytesFrom is so many bytes, each with a number of its own (up to 256 of them), from that one on.
func bytesFrom(first, size int) []byte {
	b := make([]byte, size)
	for i := range b {
		b[i] = byte(first + i)
	}
	return b
}

func dataFrame(id, flags int, data []byte) []byte { return frame(api.Data, flags, id, data...) }

func windowFrame(id, size int) []byte {
	return frame(api.Window, 0, id, byte(size>>8), byte(size))
}

// windowFrames gives a stream, and all together, so many bytes more.
func windowFrames(id, size int) []byte {
	return append(windowFrame(id, size), windowFrame(0, size)...)
}

func wantWrite(t *testing.T, c *Conn, id int, data []byte, size int, want api.Errno) {
	t.Helper()
	if n, e := c.Write(id, data); n != size || e != want {
		t.Errorf("P8: Write(%d, %d bytes) = %d, %d, want %d, %d", id, len(data), n, e, size, want)
	}
}

func wantEnd(t *testing.T, c *Conn, id int, want api.Errno) {
	t.Helper()
	if e := c.End(id); e != want {
		t.Errorf("P8: End(%d) = %d, want %d", id, e, want)
	}
}

// wantUnwritable: no bytes, and no end, may be said on these streams.
func wantUnwritable(t *testing.T, c *Conn, want api.Errno, ids ...int) {
	t.Helper()
	for _, id := range ids {
		wantWrite(t, c, id, nil, 0, want)
		wantWrite(t, c, id, []byte("x"), 0, want)
		wantWrite(t, c, id, make([]byte, 2*api.MaxBuffer), 0, want)
		wantEnd(t, c, id, want)
	}
}

// nobodys is numbers that no stream of allKinds has.
func nobodys() []int {
	return []int{math.MinInt, math.MinInt + 1, -65536, -3, -2, -1, 0, 4, 6, 15, 17, 65534, 65535, 65536 + 3, 65536 + 2, far - 1, far}
}

// allKinds is a server with an open stream of its own (2) and of the peer's (3), one that is over (5), one that the peer has ended (7), one that this end has (9), and a refused one (13). 1 and 11 were left out.
func allKinds(t *testing.T) *Conn {
	t.Helper()
	s := newEnd(t, false, 3)
	wantOpen(t, s, get(), 2, api.OK)
	s.In(slices.Concat(openFrame(3), frame(api.Open, api.Whole|api.End, 5, 129)))
	wantEnd(t, s, 5, api.OK)
	wantOut(t, s, far, openFrame(2), dataFrame(5, api.End, nil))
	s.In(slices.Concat(frame(api.Open, api.Whole|api.End, 7, 129), openFrame(9)))
	wantEnd(t, s, 9, api.OK)
	s.In(openFrame(13))
	wantOut(t, s, far, dataFrame(9, api.End, nil), frame(api.Reset, 0, 13, api.Refused))
	wantEvents(t, s, opened(3), opened(5), ended(5), opened(7), ended(7), opened(9))
	return s
}

func TestWriteOfEveryStream(t *testing.T) {
	s := allKinds(t)
	wantUnwritable(t, s, api.ErrStream, nobodys()...)
	wantUnwritable(t, s, api.ErrEnded, 5, 9)
	wantUnwritable(t, s, api.ErrReset, 1, 11, 13)
	s.In(frame(api.Open, 0, 19, 129))
	wantUnwritable(t, s, api.ErrReset, 15, 17, 19)
	wantUnwritable(t, s, api.ErrStream, 21)
	wantOut(t, s, far)
	for _, id := range []int{2, 3, 7} {
		wantWrite(t, s, id, []byte("x"), 1, api.OK)
		wantEnd(t, s, id, api.OK)
		wantUnwritable(t, s, api.ErrEnded, id)
		wantOut(t, s, far, dataFrame(id, api.End, []byte("x")))
		wantUnwritable(t, s, api.ErrEnded, id)
	}
	wantOut(t, s, far)
	wantEvents(t, s)
}

// A refused stream was reset as well while the frame that says so waits.
func TestWriteOfARefusedStreamThatWaits(t *testing.T) {
	s := newEnd(t, false, 0)
	s.In(openFrame(3))
	wantUnwritable(t, s, api.ErrReset, 3)
	wantOut(t, s, far, frame(api.Reset, 0, 3, api.Refused))
	wantUnwritable(t, s, api.ErrReset, 3)
	wantOut(t, s, far)
}

func TestWriteBehindAFailure(t *testing.T) {
	for _, ahead := range [][]byte{nil, frame(api.Open, 0, 19, 129)} {
		s := allKinds(t)
		s.In(ahead)
		s.In([]byte{0, 65, 0, 0, 0, 0})
		wantUnwritable(t, s, api.ErrGone, 1, 2, 3, 5, 7, 9, 11, 13)
		wantUnwritable(t, s, api.ErrStream, 0, -1, 4, 21, math.MinInt, far)
		if len(ahead) > 0 {
			wantUnwritable(t, s, api.ErrGone, 15, 17, 19)
		} else {
			wantUnwritable(t, s, api.ErrStream, 15, 17, 19)
		}
		last := s.theirs.last
		wantFailure(t, s, last, api.Size)
	}
}

// What waits when the connection fails is dropped.
func TestDataThatWaitsIsDroppedByAFailure(t *testing.T) {
	s := allKinds(t)
	wantWrite(t, s, 2, bytesFrom(0, 200), 200, api.OK)
	wantWrite(t, s, 3, bytesFrom(0, 10), 10, api.OK)
	wantEnd(t, s, 3, api.OK)
	wantEnd(t, s, 7, api.OK)
	s.In([]byte{0, 65, 0, 0, 0, 0})
	wantFailure(t, s, 13, api.Size)
}

func TestWriteAsMuchAsThereIsRoomFor(t *testing.T) {
	for _, c := range []struct{ waits, data, want int }{
		{0, 0, 0}, {0, 1, 1}, {0, api.MaxBuffer - 1, api.MaxBuffer - 1}, {0, api.MaxBuffer, api.MaxBuffer},
		{0, api.MaxBuffer + 1, api.MaxBuffer}, {0, 100000, api.MaxBuffer}, {1, api.MaxBuffer - 1, api.MaxBuffer - 1},
		{1, api.MaxBuffer, api.MaxBuffer - 1}, {200, 0, 0}, {200, 56, 56}, {200, 57, 56}, {api.MaxBuffer - 1, 3, 1},
		{api.MaxBuffer, 0, 0}, {api.MaxBuffer, 1, 0}, {api.MaxBuffer, 1000, 0},
	} {
		end := newEnd(t, true, 0)
		wantOpen(t, end, get(), 1, api.OK)
		wantWrite(t, end, 1, bytesFrom(0, c.waits), c.waits, api.OK)
		wantWrite(t, end, 1, bytesFrom(c.waits, c.data), c.want, api.OK)
		end.In(windowFrames(1, 300))
		wantOut(t, end, 7, openFrame(1))
		all := bytesFrom(0, c.waits+c.want)
		for len(all) > 0 {
			size := min(len(all), api.MaxFrame)
			wantOut(t, end, api.Header+size, dataFrame(1, 0, all[:size]))
			all = all[size:]
		}
		wantOut(t, end, far)
	}
}

// What has gone out makes room, whether it was read or not.
func TestWriteWhatHasGoneOutMakesRoom(t *testing.T) {
	c := newEnd(t, true, 0)
	wantOpen(t, c, get(), 1, api.OK)
	wantWrite(t, c, 1, bytesFrom(0, 300), api.MaxBuffer, api.OK)
	wantOut(t, c, 7+6+10, openFrame(1), dataFrame(1, 0, bytesFrom(0, 10)))
	wantWrite(t, c, 1, bytesFrom(256, 300), 10, api.OK)
	wantOut(t, c, far, dataFrame(1, 0, bytesFrom(10, 64)), dataFrame(1, 0, bytesFrom(74, 26)))
	wantWrite(t, c, 1, bytesFrom(266, 300), 90, api.OK)
	wantWrite(t, c, 1, bytesFrom(0, 1), 0, api.OK)
	c.In(windowFrames(1, 900))
	var want [][]byte
	for first := 100; first < 356; first += 64 {
		want = append(want, dataFrame(1, 0, bytesFrom(first, 64)))
	}
	wantOut(t, c, far, want...)
}

// A stream of which nothing waits does not come into the ring by a Write of nothing.
func TestWriteOfNothing(t *testing.T) {
	c := newEnd(t, true, 0)
	c.In(frame(api.Settings, 0, 0, 2))
	wantOpen(t, c, get(), 1, api.OK)
	wantOpen(t, c, get(), 3, api.OK)
	wantOut(t, c, far, frame(api.Settings, api.Ack, 0), openFrame(1), openFrame(3))
	wantWrite(t, c, 1, nil, 0, api.OK)
	wantWrite(t, c, 1, []byte{}, 0, api.OK)
	wantOut(t, c, far)
	wantWrite(t, c, 3, []byte("3"), 1, api.OK)
	wantWrite(t, c, 1, []byte("1"), 1, api.OK)
	wantOut(t, c, far, dataFrame(3, 0, []byte("3")), dataFrame(1, 0, []byte("1")))
}

// Each direction has an end of its own.
func TestWriteBehindThePeersEnd(t *testing.T) {
	s := newEnd(t, false, 1)
	s.In(frame(api.Open, api.Whole|api.End, 1, 129))
	wantWrite(t, s, 1, []byte("abc"), 3, api.OK)
	wantOut(t, s, far, dataFrame(1, 0, []byte("abc")))
	wantWrite(t, s, 1, []byte("d"), 1, api.OK)
	wantEnd(t, s, 1, api.OK)
	wantOut(t, s, far, dataFrame(1, api.End, []byte("d")))
	wantUnwritable(t, s, api.ErrEnded, 1)
}

func TestOwnStreamThatIsOverCountsNoMore(t *testing.T) {
	c := newEnd(t, true, 0)
	wantOpen(t, c, get(), 1, api.OK)
	wantOut(t, c, far, openFrame(1))
	c.In(dataFrame(1, api.End, []byte("unread")))
	wantOpen(t, c, get(), 0, api.ErrMany)
	wantEnd(t, c, 1, api.OK)
	wantOpen(t, c, get(), 0, api.ErrMany)
	wantOut(t, c, 5)
	wantOpen(t, c, get(), 0, api.ErrMany)
	wantOut(t, c, 6, dataFrame(1, api.End, nil))
	wantOpen(t, c, get(), 3, api.OK)
	wantEnd(t, c, 3, api.OK)
	wantOut(t, c, far, openFrame(3), dataFrame(3, api.End, nil))
	wantOpen(t, c, get(), 0, api.ErrMany)
	c.In(dataFrame(3, 0, []byte("x")))
	wantOpen(t, c, get(), 0, api.ErrMany)
	c.In(dataFrame(3, api.End, nil))
	wantOpen(t, c, get(), 5, api.OK)
	wantOpen(t, c, get(), 0, api.ErrMany)
}

func TestPeersStreamThatIsOverCountsNoMore(t *testing.T) {
	s := newEnd(t, false, 1)
	s.In(frame(api.Open, api.Whole|api.End, 1, 129))
	s.In(openFrame(3))
	wantOut(t, s, far, frame(api.Reset, 0, 3, api.Refused))
	wantEnd(t, s, 1, api.OK)
	s.In(openFrame(5))
	wantOut(t, s, far, dataFrame(1, api.End, nil), frame(api.Reset, 0, 5, api.Refused))
	s.In(openFrame(7))
	wantEnd(t, s, 7, api.OK)
	wantOut(t, s, far, dataFrame(7, api.End, nil))
	s.In(openFrame(9))
	wantOut(t, s, far, frame(api.Reset, 0, 9, api.Refused))
	s.In(dataFrame(7, api.End, []byte("unread")))
	s.In(openFrame(11))
	wantEvents(t, s, opened(1), ended(1), opened(7), ended(7), opened(11))
	wantOut(t, s, far)
}

// A refused stream counts till the peer is told.
func TestRefusedStreamThatWaitsCounts(t *testing.T) {
	s := newEnd(t, false, 1)
	s.In(frame(api.Open, api.Whole|api.End, 1, 129))
	wantEnd(t, s, 1, api.OK)
	s.In(openFrame(3))
	wantOut(t, s, 6, dataFrame(1, api.End, nil))
	s.In(openFrame(5))
	wantNoStream(t, s, 3, 5)
	wantOut(t, s, 7, frame(api.Reset, 0, 3, api.Refused))
	s.In(openFrame(7))
	wantNoStream(t, s, 7)
	wantOut(t, s, far, frame(api.Reset, 0, 5, api.Refused), frame(api.Reset, 0, 7, api.Refused))
	s.In(openFrame(9))
	wantHeaders(t, s, 9, get())
}
