package ferry

import (
	"bytes"
	"math"
	"testing"

	"ferry/api"
)

func wantRead(t *testing.T, c *Conn, id, most int, want []byte) {
	t.Helper()
	if b, e := c.Read(id, most); !bytes.Equal(b, want) || e != api.OK {
		t.Errorf("P9: Read(%d, %d) = %v, %d, want %v", id, most, b, e, want)
	}
}

// wantUnreadable: at every number that may be, these streams answer that.
func wantUnreadable(t *testing.T, c *Conn, want api.Errno, ids ...int) {
	t.Helper()
	for _, id := range ids {
		for _, most := range []int{0, 1, 100, far} {
			if b, e := c.Read(id, most); len(b) > 0 || e != want {
				t.Errorf("P9: Read(%d, %d) = %v, %d, want %d", id, most, b, e, want)
			}
		}
	}
}

// wantNoNumber: numbers that may not be are told as that of these streams.
func wantNoNumber(t *testing.T, c *Conn, want api.Errno, ids ...int) {
	t.Helper()
	for _, id := range ids {
		for _, most := range []int{-1, -100, math.MinInt} {
			if b, e := c.Read(id, most); len(b) > 0 || e != want {
				t.Errorf("P9: Read(%d, %d) = %v, %d, want %d", id, most, b, e, want)
			}
		}
	}
}

func TestReadOfEveryStream(t *testing.T) {
	s := allKinds(t)
	s.In(dataFrame(9, 0, []byte("nine")))
	for _, failed := range []bool{false, true} {
		wantUnreadable(t, s, api.ErrStream, nobodys()...)
		wantNoNumber(t, s, api.ErrStream, nobodys()...)
		wantUnreadable(t, s, api.ErrReset, 1, 11, 13)
		wantUnreadable(t, s, api.ErrEnded, 5, 7)
		wantUnreadable(t, s, api.OK, 2, 3)
		wantNoNumber(t, s, api.ErrNumber, 1, 2, 3, 5, 7, 9, 11, 13)
		wantOut(t, s, far)
		if !failed {
			s.In([]byte{0, 65, 0, 0, 0, 0})
			wantOut(t, s, far, awayFrame(13, api.Size))
		}
	}
	wantRead(t, s, 9, 9, []byte("nine"))
}

func TestReadWhileHeadersCome(t *testing.T) {
	s := allKinds(t)
	s.In(frame(api.Open, 0, 19, 129))
	for range 2 {
		wantUnreadable(t, s, api.ErrReset, 15, 17, 19)
		wantNoNumber(t, s, api.ErrNumber, 15, 17, 19)
		wantUnreadable(t, s, api.ErrStream, 21)
		s.In(frame(api.Settings, 0, 0, 1))
	}
	wantFailure(t, s, 19, api.Protocol)
}

func TestReadOfARefusedStreamThatWaits(t *testing.T) {
	s := newEnd(t, false, 0)
	s.In(openFrame(3))
	wantUnreadable(t, s, api.ErrReset, 3)
	wantNoNumber(t, s, api.ErrNumber, 3)
}

// What is read comes in order, each byte once, and gives both windows as much.
func TestReadPieces(t *testing.T) {
	s := newEnd(t, false, 1)
	s.In(openFrame(1))
	s.In(dataFrame(1, 0, bytesFrom(0, 60)))
	s.In(dataFrame(1, 0, bytesFrom(60, 40)))
	first := 0
	for _, step := range []struct{ most, size int }{{0, 0}, {1, 1}, {0, 0}, {58, 58}, {2, 2}, {38, 38}, {2, 1}, {5, 0}, {0, 0}, {far, 0}} {
		wantRead(t, s, 1, step.most, bytesFrom(first, step.size))
		first += step.size
		if step.size > 0 {
			wantOut(t, s, far, windowFrame(1, step.size), windowFrame(0, step.size))
		} else {
			wantOut(t, s, far)
		}
	}
	s.In(dataFrame(1, 0, bytesFrom(100, 64)))
	wantRead(t, s, 1, far, bytesFrom(100, 64))
	wantOut(t, s, far, windowFrame(1, 64), windowFrame(0, 64))
	wantEvents(t, s, opened(1))
}

// The Window frames stand behind the control frames that wait, the stream's ahead of that of all together.
func TestWindowFramesWaitInOrder(t *testing.T) {
	c := newEnd(t, true, 2)
	wantOpen(t, c, get(), 1, api.OK)
	c.In(openFrame(2))
	c.In(dataFrame(2, 0, []byte("abc")))
	c.In(dataFrame(1, 0, []byte("defg")))
	wantRead(t, c, 2, 1, []byte("a"))
	c.In(frame(api.Settings, 0, 0, 2))
	wantRead(t, c, 1, 9, []byte("defg"))
	wantRead(t, c, 2, 9, []byte("bc"))
	wantOut(t, c, far, windowFrame(2, 1), windowFrame(0, 1), frame(api.Settings, api.Ack, 0),
		windowFrame(1, 4), windowFrame(0, 4), windowFrame(2, 2), windowFrame(0, 2), openFrame(1))
	wantOut(t, c, far)
}

// Nothing can come any more on a stream that the peer has ended: of it only the window of all together is given back.
func TestReadBehindThePeersEnd(t *testing.T) {
	for _, over := range []bool{false, true} {
		s := newEnd(t, false, 1)
		s.In(openFrame(1))
		s.In(dataFrame(1, 0, []byte("abc")))
		wantRead(t, s, 1, 1, []byte("a"))
		wantOut(t, s, far, windowFrame(1, 1), windowFrame(0, 1))
		s.In(dataFrame(1, api.End, []byte("de")))
		if over {
			wantEnd(t, s, 1, api.OK)
			wantOut(t, s, far, dataFrame(1, api.End, nil))
		}
		wantRead(t, s, 1, 0, nil)
		wantNoNumber(t, s, api.ErrNumber, 1)
		wantOut(t, s, far)
		wantRead(t, s, 1, 3, []byte("bcd"))
		wantOut(t, s, far, windowFrame(0, 3))
		wantRead(t, s, 1, 3, []byte("e"))
		wantOut(t, s, far, windowFrame(0, 1))
		wantUnreadable(t, s, api.ErrEnded, 1)
		wantNoNumber(t, s, api.ErrNumber, 1)
		wantOut(t, s, far)
		wantEvents(t, s, opened(1), ended(1))
	}
}

// An end of one's own says nothing of what comes.
func TestReadBehindOnesOwnEnd(t *testing.T) {
	c := newEnd(t, true, 0)
	wantOpen(t, c, get(), 1, api.OK)
	wantEnd(t, c, 1, api.OK)
	for range 2 {
		wantUnreadable(t, c, api.OK, 1)
		c.In(dataFrame(1, 0, []byte("ab")))
		wantRead(t, c, 1, 2, []byte("ab"))
		if b := c.Out(2 * 8); !bytes.Equal(b, append(windowFrame(1, 2), windowFrame(0, 2)...)) {
			t.Errorf("P9: Window frames %v behind one's own end", b)
		}
		c.Out(far)
	}
	c.In(dataFrame(1, api.End, nil))
	wantUnreadable(t, c, api.ErrEnded, 1)
}

// What has come is there behind a failure, but gives no window any more.
func TestReadBehindAFailure(t *testing.T) {
	s := newEnd(t, false, 2)
	s.In(openFrame(1))
	s.In(openFrame(3))
	s.In(dataFrame(1, 0, []byte("abc")))
	s.In(dataFrame(3, api.End, []byte("xyz")))
	s.In(dataFrame(0, 0, nil))
	wantEvents(t, s, opened(1), opened(3), ended(3), failed(api.Protocol))
	wantOut(t, s, far, awayFrame(3, api.Protocol))
	wantRead(t, s, 1, 2, []byte("ab"))
	wantRead(t, s, 1, 2, []byte("c"))
	wantRead(t, s, 1, 2, nil)
	wantRead(t, s, 3, far, []byte("xyz"))
	wantUnreadable(t, s, api.ErrEnded, 3)
	wantNoNumber(t, s, api.ErrNumber, 1, 3)
	wantOver(t, s)
}

// Streams do not mix, whichever of them is read.
func TestReadOfManyStreams(t *testing.T) {
	s := newEnd(t, false, 3)
	wantOpen(t, s, get(), 2, api.OK)
	unread := map[int][]byte{}
	for _, id := range []int{1, 3, 5} {
		s.In(openFrame(id))
	}
	for i, n := range noise(7, 300) {
		id := []int{5, 2, 3, 1}[n%4]
		data := bytesFrom(i, int(n/4)%5)
		s.In(dataFrame(id, 0, data))
		unread[id] = append(unread[id], data...)
		id = []int{1, 2, 3, 5}[i%4]
		size := min(int(n/8), len(unread[id]))
		wantRead(t, s, id, int(n/8), unread[id][:size])
		unread[id] = unread[id][size:]
	}
	wantEvents(t, s, opened(1), opened(3), opened(5))
}
