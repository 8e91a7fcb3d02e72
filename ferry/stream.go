package ferry

import (
	"ferry/api"
	"ferry/wire"
)

// state is what an end knows of a stream.
type state int

const (
	idle          state = iota // its opener has not come to it yet
	open                       // neither end has ended it
	endedHere                  // this end has ended it: the frame that says so has left
	endedThere                 // the peer has ended it
	over                       // both have ended it
	breaking                   // it was reset here; the frame that says so waits
	breakingEnded              // likewise, and this end had ended it: the peer's end makes it over
	parting                    // likewise, but the peer has reset it, too, or both have ended it
	broken                     // it was reset, and nothing of it waits
)

// counts tells whether a stream is one of its opener's still.
func (s state) counts() bool {
	switch s {
	case breaking, breakingEnded:
		// The peer has not been told yet, and counts it as an open one.
		fallthrough
	case endedHere, endedThere:
		// One direction is left, so it is not over.
		fallthrough
	case open:
		return true
	}
	return false
}

// sends tells whether this end has not ended a stream.
func (s state) sends() bool {
	switch s {
	case endedThere:
		// The peer's end is that of the other direction.
		fallthrough
	case open:
		return true
	}
	return false
}

// hasPeersEnd tells whether the peer has ended a stream.
func (s state) hasPeersEnd() bool {
	switch s {
	case over:
		// That this end has, too, takes nothing from it.
		fallthrough
	case endedThere:
		return true
	}
	return false
}

// wasReset tells whether either end has reset a stream.
func (s state) wasReset() bool {
	switch s {
	case breaking, breakingEnded, parting:
		// Whether the peer has been told is no matter here.
		fallthrough
	case broken:
		return true
	}
	return false
}

// tellsReset tells whether that a stream was reset waits.
func (s state) tellsReset() bool {
	switch s {
	case parting:
		// The frame goes out, whatever the peer has said meanwhile.
		fallthrough
	case breaking, breakingEnded:
		return true
	}
	return false
}

type stream struct {
	id      int
	opener  *opener
	state   state
	window  windows
	headers []api.Pair // if the peer opened it
	block   []byte     // its packed headers, while they wait
	data    []byte     // that waits
	ends    bool       // End was called for it
	unread  []byte
	code    int // why it was reset, while that waits
}

// move brings the stream into another state. One that is broken is as a number that was left out, but that its headers may be asked for.
func (s *stream) move(to state) {
	if s.state.counts() {
		s.opener.counting--
	}
	if to.counts() {
		s.opener.counting++
	}
	s.state = to
	if to == broken && s.headers == nil {
		delete(s.opener.streams, s.id)
	}
}

// endHere: this end's last frame has left.
func (s *stream) endHere() {
	if s.state == endedThere {
		s.move(over)
		return
	}
	s.move(endedHere)
}

// endThere: the peer's last frame has come. Of a stream that was reset that matters only where it is over by it.
func (s *stream) endThere() {
	switch s.state {
	case open:
		s.move(endedThere)
	case endedHere:
		s.move(over)
	case breakingEnded:
		s.move(parting)
	}
}

// breakHere: this end resets the stream. A peer that has not heard of it needs not be told.
func (s *stream) breakHere(code int) {
	s.code = code
	switch {
	case s.block != nil:
		s.move(broken)
	case s.state == endedHere:
		s.move(breakingEnded)
	default:
		s.move(breaking)
	}
}

// waits tells whether something of the stream waits to go out.
func (s *stream) waits() bool {
	return s.block != nil || s.state.tellsReset() || len(s.data) > 0 || s.ends && s.state.sends()
}

// headersTurn gives the frames of the headers, all of them; none, if there is no room.
func (s *stream) headersTurn(room int) []byte {
	frames := headerFrames(s.id, s.block)
	if len(frames) > room {
		return nil
	}
	s.block = nil
	return frames
}

// resetTurn gives the frame that says that the stream was reset; none, if there is no room.
func (s *stream) resetTurn(room int) []byte {
	f := wire.Frame{Kind: api.Reset, Stream: s.id, Body: []byte{byte(s.code)}}
	if f.Size() > room {
		return nil
	}
	s.move(broken)
	return f.Append(nil)
}

// headerFrames cuts packed headers into an Open frame and as many More frames as they need.
func headerFrames(id int, block []byte) []byte {
	var frames []byte
	kind := api.Open
	for len(block) > api.MaxFrame {
		frames = wire.Frame{Kind: kind, Stream: id, Body: block[:api.MaxFrame]}.Append(frames)
		kind, block = api.More, block[api.MaxFrame:]
	}
	return wire.Frame{Kind: kind, Flags: api.Whole, Stream: id, Body: block}.Append(frames)
}
