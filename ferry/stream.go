package ferry

import (
	"ferry/api"
	"ferry/wire"
)

// state is what an end knows of a stream.
type state int

const (
	idle       state = iota // its opener has not come to it yet
	open                    // neither end has ended it
	endedThere              // the peer has ended it
	breaking                // it was reset here; the frame that says so waits
	broken                  // it was reset, and nothing of it waits
)

// counts tells whether a stream is one of its opener's still.
func (s state) counts() bool {
	switch s {
	case breaking:
		// The peer has not been told yet, and counts it as an open one.
		fallthrough
	case endedThere:
		// This end has not ended it, so it is not over.
		fallthrough
	case open:
		return true
	}
	return false
}

type stream struct {
	id      int
	opener  *opener
	state   state
	headers []api.Pair // if the peer opened it
	block   []byte     // its packed headers, while they wait
	code    int        // why it was reset, while that waits
}

// move brings the stream into another state.
func (s *stream) move(to state) {
	if s.state.counts() {
		s.opener.counting--
	}
	if to.counts() {
		s.opener.counting++
	}
	s.state = to
}

// turn gives the frames that go out now, all of them; none, if there is no room.
func (s *stream) turn(room int) []byte {
	frames := s.waiting()
	if len(frames) > room {
		return nil
	}
	s.block = nil
	if s.state == breaking {
		s.move(broken)
	}
	return frames
}

func (s *stream) waiting() []byte {
	if s.state == breaking {
		return wire.Frame{Kind: api.Reset, Stream: s.id, Body: []byte{byte(s.code)}}.Append(nil)
	}
	return headerFrames(s.id, s.block)
}

// headerFrames cuts packed headers into an Open frame and as many More frames as they need.
func headerFrames(id int, block []byte) []byte {
	var frames []byte
	kind := api.Open
	for len(block) > api.MaxFrame {
		frames = wire.Frame{Kind: kind, Stream: id, Body: block[:api.MaxFrame]}.Append(frames)
		kind, block = api.More, block[api.MaxFrame:]
	}
	return wire.Frame{Kind: kind, Flags: api.Whole, Stream: id, Body: block}.Append(frames)
}
