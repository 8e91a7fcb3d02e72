package ferry

import (
	"slices"
	"testing"

	"ferry/api"
)

func pingFrame(flags, number int) []byte {
	return frame(api.Ping, flags, 0, byte(number>>8), byte(number))
}

func wantPing(t *testing.T, c *Conn, number int, want api.Errno) {
	t.Helper()
	if n, e := c.Ping(); n != number || e != want {
		t.Errorf("P11: Ping = %d, %d, want %d, %d", n, e, number, want)
	}
}

func TestPingOfEveryNumber(t *testing.T) {
	for _, client := range []bool{true, false} {
		c := newEnd(t, client, 1)
		for i := 1; i <= 65536+300; i++ {
			wantPing(t, c, i&65535, api.OK)
			if i%100 == 0 {
				var want [][]byte
				for n := i - 99; n <= i; n++ {
					want = append(want, pingFrame(0, n))
				}
				wantOut(t, c, far, want...)
			}
		}
		wantEvents(t, c)
	}
}

// A ping is a control frame: it waits in its order with them, ahead of all streams.
func TestPingWaitsInOrder(t *testing.T) {
	c, _ := New(true, 2)
	wantOpen(t, c, get(), 1, api.OK)
	wantPing(t, c, 1, api.OK)
	c.In(frame(api.Settings, 0, 0, 2))
	c.In(pingFrame(0, 513))
	wantPing(t, c, 2, api.OK)
	c.In(dataFrame(1, 0, []byte("x")))
	wantRead(t, c, 1, 1, []byte("x"))
	if e := c.Away(); e != api.OK {
		t.Errorf("P11: Away = %d", e)
	}
	wantPing(t, c, 3, api.OK)
	wantOut(t, c, 14, frame(api.Settings, 0, 0, 2))
	wantOut(t, c, 7)
	wantOut(t, c, 8, []byte{0, 2, 5, 0, 0, 0, 0, 1})
	wantOut(t, c, far, frame(api.Settings, api.Ack, 0), []byte{0, 2, 5, 1, 0, 0, 2, 1}, pingFrame(0, 2), windowFrame(1, 1), windowFrame(0, 1), awayFrame(0, api.None), pingFrame(0, 3), openFrame(1))
	wantOut(t, c, far)
}

func TestPingBehindAFailure(t *testing.T) {
	c := newEnd(t, true, 1)
	wantPing(t, c, 1, api.OK)
	c.In([]byte{0, 65, 0, 0, 0, 0})
	for range 3 {
		wantPing(t, c, 0, api.ErrGone)
	}
	wantOut(t, c, far, pingFrame(0, 1), awayFrame(0, api.Size))
	wantOut(t, c, far)
}

// An end that is leaving, or whose peer is, is there still.
func TestPingWhileAnEndIsLeaving(t *testing.T) {
	c := newEnd(t, true, 1)
	c.Away()
	c.In(awayFrame(0, api.None))
	wantPing(t, c, 1, api.OK)
	c.In(pingFrame(0, 7))
	wantOut(t, c, far, awayFrame(0, api.None), pingFrame(0, 1), pingFrame(api.Ack, 7))
}

// Of the flags only Ack means something: by it a ping is an answer, whether one was asked for or not.
func TestPingFrameFlags(t *testing.T) {
	for flags := range 256 {
		for _, number := range []int{0, 1, 255, 256, 513, 65535} {
			s := newEnd(t, false, 1)
			s.In(pingFrame(flags, number))
			if flags&api.Ack != 0 {
				wantEvents(t, s, api.Event{Kind: api.Pong, Code: number})
				wantOut(t, s, far)
			} else {
				wantEvents(t, s)
				wantOut(t, s, far, pingFrame(api.Ack, number))
			}
			wantPing(t, s, 1, api.OK)
		}
	}
}

func TestPingFramesThatMayNotBe(t *testing.T) {
	for _, flags := range []int{0, api.Ack, 254, 255} {
		for _, size := range []int{0, 1, 3, api.MaxFrame} {
			s := allKinds(t)
			s.In(frame(api.Ping, flags, 0, make([]byte, size)...))
			wantFailure(t, s, 13, api.Size)
		}
		for _, id := range []int{1, 2, 3, 5, 15, 256, 65535} {
			for _, size := range []int{0, 1, 2, 3} {
				s := allKinds(t)
				s.In(frame(api.Ping, flags, id, make([]byte, size)...))
				wantFailure(t, s, 13, api.Protocol)
			}
		}
	}
}

// Each ping is answered by the other end, in their order.
func TestPingsOfTwoEnds(t *testing.T) {
	for size := 1; size < 40; size++ {
		c, _ := New(true, 1)
		s, _ := New(false, 1)
		var want []api.Event
		for i := range size {
			wantPing(t, c, i+1, api.OK)
			want = append(want, api.Event{Kind: api.Pong, Code: i + 1})
		}
		wantPing(t, s, 1, api.OK)
		carry(c, s, size)
		carry(s, c, size)
		carry(c, s, size)
		wantEvents(t, c, want...)
		wantEvents(t, s, api.Event{Kind: api.Pong, Code: 1})
	}
}

// The body of an answer is not that of the frame that came, nor is what goes out.
func TestPingsAreFresh(t *testing.T) {
	s := newEnd(t, false, 1)
	for i := range 50 {
		inAndSpoil(t, s, slices.Concat(pingFrame(0, 300+i), pingFrame(0, 400+i))[:8+i%9])
		inAndSpoil(t, s, pingFrame(0, 400+i)[i%9:])
	}
	for i := range 50 {
		for _, number := range []int{300 + i, 400 + i} {
			b := s.Out(8)
			if !slices.Equal(b, pingFrame(api.Ack, number)) {
				t.Fatalf("P2: Out = %v, want an answer of %d", b, number)
			}
			spoil(b)
		}
	}
	wantOut(t, s, far)
}
