package ferry

import "ferry/api"

// opener is what an end knows of the streams that one of both ends opens.
type opener struct {
	first    int // the first number of its streams
	last     int // the greatest number that it has come to, or 0
	most     int // how many of them may count
	counting int // how many of them count
	streams  map[int]*stream
}

// opens tells whether a stream of this number is this one's to open.
func (o *opener) opens(id int) bool { return id > 0 && id%2 == o.first%2 }

func (o *opener) next() int {
	if o.last == 0 {
		return o.first
	}
	return o.last + 2
}

// find is the stream of a number of this opener's. One that it has come to, but that is not kept, was reset or left out, or its headers still come: all these are alike.
func (o *opener) find(id int) *stream {
	if id > o.last {
		return &stream{state: idle}
	}
	if s := o.streams[id]; s != nil {
		return s
	}
	return &stream{state: broken}
}

// full tells whether as many streams count as may. (There are more, if the peer has taken its word back, or was not told yet of those that are refused.)
func (o *opener) full() bool { return o.counting >= o.most }

// keep begins an open stream, and keeps it.
func (o *opener) keep(id int) *stream {
	s := &stream{id: id, opener: o, window: windows{from: api.StreamWindow, to: api.StreamWindow}}
	o.streams[id] = s
	s.move(open)
	return s
}
