package ferry

// opener is what an end knows of the streams that one of both ends opens.
type opener struct {
	first    int // the first number of its streams
	last     int // the greatest number that it has come to, or 0
	most     int // how many of them may count
	counting int // how many of them count
	streams  map[int]*stream
}

// opens tells whether a stream of this number is this one's to open.
func (o *opener) opens(id int) bool { return id > 0 && id%2 == o.first%2 }

func (o *opener) next() int {
	if o.last == 0 {
		return o.first
	}
	return o.last + 2
}

// stateOf is the state of a stream of this opener's. One that it has come to, but that nothing is known of, was left out, or its headers still come: both are as if they were reset.
func (o *opener) stateOf(id int) state {
	if id > o.last {
		return idle
	}
	if s := o.streams[id]; s != nil {
		return s.state
	}
	return broken
}

// full tells whether as many streams count as may. (There are more, if the peer has taken its word back, or was not told yet of those that are refused.)
func (o *opener) full() bool { return o.counting >= o.most }

// begin makes the stream of a number known.
func (o *opener) begin(id int, in state) *stream {
	s := &stream{id: id, opener: o}
	s.move(in)
	o.streams[id] = s
	return s
}
