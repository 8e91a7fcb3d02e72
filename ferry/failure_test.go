package ferry

import (
	"slices"
	"testing"

	"ferry/api"
)

// busy is a server of which everything waits that may: headers (2), bytes (3), an end (5), that it is reset (7), that it is refused (11), control frames. 1 is left out; of 3 and 9 something is unread; 9 the peer has ended.
func busy(t *testing.T) (s *Conn, control []byte) {
	t.Helper()
	s = newEnd(t, false, 4)
	for _, id := range []int{3, 5, 7, 9} {
		s.In(openFrame(id))
	}
	s.In(dataFrame(3, 0, []byte("three")))
	s.In(dataFrame(9, api.End, []byte("nine")))
	s.In(dataFrame(7, 0, []byte("seven")))
	wantOpen(t, s, longest(), 2, api.OK)
	wantWrite(t, s, 3, bytesFrom(0, 200), 200, api.OK)
	wantEnd(t, s, 5, api.OK)
	wantReset(t, s, api.OK, 7)
	s.In(openFrame(11))
	wantPing(t, s, 1, api.OK)
	s.In(pingFrame(0, 9))
	s.In(frame(api.Settings, 0, 0, 6))
	wantAway(t, s, api.OK)
	wantEvents(t, s, opened(3), opened(5), opened(7), opened(9), ended(9))
	return s, slices.Concat(windowFrame(0, 5), pingFrame(0, 1), pingFrame(api.Ack, 9), frame(api.Settings, api.Ack, 0), awayFrame(11, api.None))
}

// failures is frames by which busy fails, by the codes, and the last number that it has heard of.
func failures() []struct {
	code, last int
	frames     []byte
} {
	return []struct {
		code, last int
		frames     []byte
	}{
		{api.Protocol, 11, dataFrame(0, 0, nil)},
		{api.Protocol, 11, openFrame(3)},
		{api.Protocol, 11, frame(api.More, api.Whole, 3, 129)},
		{api.Protocol, 11, resetFrame(13, 1)},
		{api.Protocol, 11, frame(api.Settings, 0, 0, 7)},
		{api.Protocol, 11, frame(api.Ping, 0, 3, 0, 0)},
		{api.Protocol, 11, frame(api.Away, 0, 3, 0, 0, 0)},
		{api.Protocol, 11, windowFrame(3, 0)},
		{api.Protocol, 13, append(frame(api.Open, 0, 13, 129), pingFrame(0, 0)...)},
		{api.Flow, 11, append(dataFrame(3, 0, make([]byte, 64)), dataFrame(3, 0, make([]byte, 64))...)},
		{api.Flow, 11, windowFrame(0, 851)},
		{api.Flow, 11, windowFrame(3, 901)},
		{api.Size, 11, []byte{0, 65, 0, 0, 0, 1}},
		{api.Size, 11, frame(api.Reset, 0, 3)},
		{api.Size, 11, frame(api.Settings, api.Ack, 0, 0)},
		{api.Size, 11, frame(api.Ping, api.Ack, 0, 0)},
		{api.Size, 11, frame(api.Away, 0, 0, 0, 0)},
		{api.Size, 11, frame(api.Window, 0, 3, 1)},
		{api.Closed, 11, dataFrame(9, 0, nil)},
		{api.Packing, 13, frame(api.Open, api.Whole, 13, 128)},
	}
}

// By each code: control frames stay, streams say nothing any more, and every call tells that it is over, or what has come by then.
func TestCallsBehindAFailure(t *testing.T) {
	for _, c := range failures() {
		s, control := busy(t)
		s.In(append(slices.Clone(c.frames), resetFrame(3, 1)...))
		wantEvents(t, s, failed(c.code))
		wantPing(t, s, 0, api.ErrGone)
		wantAway(t, s, api.ErrGone)
		wantReset(t, s, api.ErrGone, 1, 2, 3, 5, 7, 9, 11)
		wantReset(t, s, api.ErrStream, -1, 0, 4, 15)
		wantUnwritable(t, s, api.ErrGone, 1, 2, 3, 5, 7, 9, 11)
		wantUnwritable(t, s, api.ErrStream, -1, 0, 4, 15)
		wantOpen(t, s, nil, 0, api.ErrHeader)
		wantOpen(t, s, get(), 0, api.ErrGone)
		wantOut(t, s, far, control, awayFrame(c.last, c.code))
		wantUnreadable(t, s, api.ErrReset, 1, 7, 11)
		wantUnreadable(t, s, api.ErrStream, -1, 0, 4, 15)
		wantUnreadable(t, s, api.OK, 2, 5)
		wantRead(t, s, 3, 5, []byte("three"))
		wantRead(t, s, 9, 5, []byte("nine"))
		wantUnreadable(t, s, api.ErrEnded, 9)
		wantNoStream(t, s, 1, 2, 11, 13)
		for _, id := range []int{3, 5, 7, 9} {
			wantHeaders(t, s, id, get())
		}
		wantOver(t, s)
	}
}

// The same without a failure: all that waited goes out, in its order.
func TestOutOfABusyEnd(t *testing.T) {
	s, control := busy(t)
	packed, _ := Pack(longest())
	wantOut(t, s, far, control, headerFrames(2, packed), dataFrame(3, 0, bytesFrom(0, 64)), dataFrame(5, api.End, nil),
		resetFrame(7, api.Cancel), resetFrame(11, api.Refused), dataFrame(3, 0, bytesFrom(64, 36)))
	wantOut(t, s, far)
}

// Where several things are wrong, the one that is said first is told.
func TestTheFirstThingThatIsWrong(t *testing.T) {
	for _, c := range []struct {
		what   string
		code   int
		frames []byte
	}{
		{"Reset of 0 without a body", api.Protocol, frame(api.Reset, 0, 0)},
		{"Reset of an idle stream with two bytes", api.Protocol, frame(api.Reset, 0, 13, 1, 1)},
		{"Reset of one that is reset, without a body", api.Size, frame(api.Reset, 0, 7)},
		{"Reset of one that was left out, with two bytes", api.Size, frame(api.Reset, 0, 1, 1, 1)},
		{"Ping of a stream without a body", api.Protocol, frame(api.Ping, 0, 3)},
		{"Away of a stream without a body", api.Protocol, frame(api.Away, 0, 3)},
		{"Settings of a stream, too many", api.Protocol, frame(api.Settings, 0, 3, 7, 7)},
		{"Settings with Ack and a number that may not be", api.Size, frame(api.Settings, api.Ack, 0, 7)},
		{"Window of an idle stream without a body", api.Protocol, frame(api.Window, 0, 13)},
		{"Window of 0 bytes in three", api.Size, frame(api.Window, 0, 3, 0, 0, 0)},
		{"Data behind an end, above the window", api.Flow, slices.Concat(dataFrame(3, 0, make([]byte, 64)), dataFrame(5, 0, make([]byte, 64)), dataFrame(9, 0, make([]byte, 14)))},
		{"Data behind an end, within the window", api.Closed, slices.Concat(dataFrame(3, 0, make([]byte, 64)), dataFrame(5, 0, make([]byte, 64)), dataFrame(9, 0, make([]byte, 13)))},
		{"Data of an idle stream, above the window", api.Protocol, slices.Concat(dataFrame(3, 0, make([]byte, 64)), dataFrame(5, 0, make([]byte, 64)), dataFrame(13, 0, make([]byte, 14)))},
		{"a long frame of no kind", api.Size, []byte{0, 65, 200, 0, 0, 0}},
		{"a long frame while headers come", api.Size, append(frame(api.Open, 0, 13, 129), 0, 65, api.Ping, 0, 0, 0)},
		{"a frame of no kind while headers come", api.Protocol, append(frame(api.Open, 0, 13, 129), frame(200, 0, 0)...)},
		{"a Reset of their stream while headers come", api.Protocol, append(frame(api.Open, 0, 13, 129), frame(api.Reset, 0, 13)...)},
	} {
		s, _ := busy(t)
		s.In(c.frames)
		if e := s.Events(); !slices.Equal(e, []api.Event{failed(c.code)}) {
			t.Errorf("P14: %s: Events = %v, want the code %d", c.what, e, c.code)
		}
	}
}
