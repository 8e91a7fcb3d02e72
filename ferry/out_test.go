package ferry

import (
	"math"
	"testing"

	"ferry/api"
)

func TestOutWithoutRoom(t *testing.T) {
	c, _ := New(true, 6)
	wantOpen(t, c, get(), 1, api.OK)
	for _, room := range []int{math.MinInt, -far, -7, -1, 0, 1, 6} {
		wantOut(t, c, room)
	}
	wantOut(t, c, 7, frame(api.Settings, 0, 0, 6))
	for _, room := range []int{math.MinInt, -1, 0, 1, 6} {
		wantOut(t, c, room)
	}
	wantOut(t, c, 7, openFrame(1))
	wantOut(t, c, 7)
}

// A control frame without room keeps back the smaller ones behind it, and the streams.
func TestControlFramesAreAheadOfStreams(t *testing.T) {
	settings, ack := frame(api.Settings, 0, 0, 6), frame(api.Settings, api.Ack, 0)
	end := func() *Conn {
		c, _ := New(true, 6)
		wantOpen(t, c, get(), 1, api.OK)
		c.In(frame(api.Settings, 0, 0, 2))
		c.In(frame(api.Settings, 0, 0, 1))
		return c
	}
	c := end()
	wantOut(t, c, 6)
	wantOut(t, c, 12, settings)
	wantOut(t, c, 5)
	wantOut(t, c, 11, ack)
	wantOut(t, c, 12, ack)
	wantOut(t, c, 7, openFrame(1))
	wantOut(t, end(), 13, settings, ack)
	wantOut(t, end(), 19, settings, ack, ack)
	wantOut(t, end(), 25, settings, ack, ack)
	wantOut(t, end(), 26, settings, ack, ack, openFrame(1))
	c = end()
	wantOut(t, c, 25, settings, ack, ack)
	c.In(frame(api.Settings, 0, 0, 3))
	wantOut(t, c, 12, ack)
	c.In(frame(api.Settings, 0, 0, 3))
	wantOut(t, c, far, ack, openFrame(1))
}

// The ring is gone through in the order in which streams came into it, whoever opened them.
func TestOrderOfTheRing(t *testing.T) {
	end := func() *Conn {
		c := newEnd(t, false, 1)
		c.In(frame(api.Settings, 0, 0, 3))
		wantOpen(t, c, get(), 2, api.OK)
		c.In(openFrame(1))
		c.In(openFrame(9))
		wantOpen(t, c, long(65), 4, api.OK)
		c.In(openFrame(11))
		wantOpen(t, c, get(), 6, api.OK)
		wantOut(t, c, 6, frame(api.Settings, api.Ack, 0))
		return c
	}
	packed, _ := Pack(long(65))
	two, nine, eleven, six := openFrame(2), frame(api.Reset, 0, 9, api.Refused), frame(api.Reset, 0, 11, api.Refused), openFrame(6)
	four := append(frame(api.Open, 0, 4, packed[:64]...), frame(api.More, api.Whole, 4, packed[64])...)
	wantOut(t, end(), far, two, nine, four, eleven, six)
	wantOut(t, end(), 7+7+77+7+7, two, nine, four, eleven, six)
	wantOut(t, end(), 7+7+77+7+6, two, nine, four, eleven)
	c := end()
	wantOut(t, c, 6)
	wantOut(t, c, 13, two)
	wantOut(t, c, 7+76, nine)
	wantOut(t, c, 76)
	wantOut(t, c, 77, four)
	wantOut(t, c, 13, eleven)
	wantOpen(t, c, get(), 0, api.ErrMany)
	wantOut(t, c, 100, six)
	wantOut(t, c, 100)
}

func TestResetGoesOutOnce(t *testing.T) {
	s := newEnd(t, false, 0)
	s.In(openFrame(513))
	wantOut(t, s, 6)
	wantOut(t, s, 7, []byte{0, 1, 3, 0, 2, 1, 6})
	wantOut(t, s, far)
	wantEvents(t, s)
}

// What streams have to say is dropped by a failure; control frames that wait stay.
func TestOutBehindAFailure(t *testing.T) {
	s, _ := New(false, 1)
	wantOpen(t, s, longest(), 2, api.OK)
	s.In(openFrame(1))
	s.In(openFrame(259))
	s.In(frame(api.Settings, 0, 0, 2))
	s.In(frame(api.Settings, api.Ack, 0, 2))
	wantEvents(t, s, opened(1), failed(api.Size))
	wantOut(t, s, 12, frame(api.Settings, 0, 0, 1))
	wantOut(t, s, 14, frame(api.Settings, api.Ack, 0))
	wantOut(t, s, 8)
	wantOut(t, s, 9, []byte{0, 3, 6, 0, 0, 0, 1, 3, 3})
	wantOver(t, s)
}
