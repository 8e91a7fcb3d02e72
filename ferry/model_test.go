package ferry

import (
	"bytes"
	"maps"
	"slices"
	"testing"

	"ferry/api"
	"ferry/wire"
)

// known is what an end knows of a stream.
type known struct {
	headOut, endOut, endIn, reset, resetOut, resetIn bool
	code                                             int // of the Reset frame that is to go out
}

func (k *known) over() bool { return k.endOut && k.endIn }

// side is one direction of a journey, and the end that sends there: what the document says of it, worked out from calls and frames alone.
type side struct {
	t          *testing.T
	from, to   *Conn
	back       *side
	limit      int
	pipe       []byte // on its way
	come       []byte // of a frame that has not come wholly
	open       []int  // the streams that the sender has opened, or heard of
	own        []int  // those that it has opened
	headers    map[int][]api.Pair
	streams    map[int]*known
	written    map[int][]byte
	ends       map[int]bool // End was called
	sent       map[int]int
	came       map[int]int
	read       map[int]int // or dropped
	given      map[int]int // by Window frames that have come back to the sender; 0 is all together
	turns      map[int]map[int]bool
	heard      int // the greatest number that has come to the other end
	pings      int
	pongs      int
	leaving    bool
	last       int // that its Away frame is to tell
	peerLeaves bool
}

func newSide(t *testing.T, from, to *Conn) *side {
	return &side{t: t, from: from, to: to, limit: to.theirs.most, headers: map[int][]api.Pair{}, streams: map[int]*known{}, written: map[int][]byte{}, ends: map[int]bool{}, sent: map[int]int{}, came: map[int]int{}, read: map[int]int{}, given: map[int]int{}, turns: map[int]map[int]bool{}}
}

func (d *side) know(id int) *known {
	if d.streams[id] == nil {
		d.streams[id] = &known{}
	}
	return d.streams[id]
}

func (d *side) counting() int {
	n := 0
	for _, id := range d.own {
		k := d.know(id)
		if !k.over() && !(k.reset && (k.resetOut || k.resetIn || !k.headOut)) {
			n++
		}
	}
	return n
}

func sum(m map[int]int) int {
	all := 0
	for n := range maps.Values(m) {
		all += n
	}
	return all
}

// able tells whether a stream has bytes, and windows for them.
func (d *side) able(id int) bool {
	return !d.know(id).reset && len(d.written[id]) > d.sent[id] && api.StreamWindow+d.given[id] > d.sent[id] && api.ConnWindow+d.given[0] > sum(d.sent)
}

// ables is the streams that can go. Who can't starts anew.
func (d *side) ables() []int {
	var l []int
	for _, id := range d.open {
		if d.able(id) {
			l = append(l, id)
		} else {
			delete(d.turns, id)
		}
	}
	return l
}

// turn: a stream had one. No other one that could go all the time may have seen it twice.
func (d *side) turn(id int) {
	for _, other := range d.ables() {
		if other == id {
			continue
		}
		if d.turns[other] == nil {
			d.turns[other] = map[int]bool{}
		}
		if d.turns[other][id] {
			d.t.Fatalf("P15: the stream %d had two turns, %d none", id, other)
		}
		d.turns[other][id] = true
	}
	delete(d.turns, id)
}

// send lets bytes go out, and looks at them.
func (d *side) send(room int) {
	b := d.from.Out(room)
	if len(b) > room {
		d.t.Fatalf("P12: Out(%d) is %d bytes", room, len(b))
	}
	d.pipe = append(d.pipe, b...)
	for rest := b; len(rest) > 0; {
		f, behind, came := wire.Cut(rest)
		if came != wire.Wholly {
			d.t.Fatalf("P12: Out(%d) ends with %v", room, rest)
		}
		d.look(f)
		rest = behind
	}
	spoil(b)
}

// look looks at a frame that goes out.
func (d *side) look(f wire.Frame) {
	k := d.know(f.Stream)
	switch f.Kind {
	case api.Open:
		if k.headOut || k.reset {
			d.t.Fatalf("P12: the headers of %d went out: %v", f.Stream, k)
		}
		d.turn(f.Stream)
		k.headOut = true
	case api.Data:
		d.turn(f.Stream)
		d.lookAtData(f, k)
	case api.Reset:
		if !k.reset || k.resetOut || int(f.Body[0]) != k.code {
			d.t.Fatalf("P12: %v went out: %v", f, k)
		}
		d.turn(f.Stream)
		k.resetOut = true
	case api.Away:
		if !d.leaving || !bytes.Equal(f.Body, []byte{0, byte(d.last), api.None}) {
			d.t.Fatalf("P11: %v went out, where %d was the last", f, d.last)
		}
	}
}

func (d *side) lookAtData(f wire.Frame, k *known) {
	id, before := f.Stream, d.sent[f.Stream]
	if k.reset || k.endOut || !bytes.HasPrefix(d.written[id][before:], f.Body) {
		d.t.Fatalf("P15: %d bytes of the stream %d went out that were not written so: %v", len(f.Body), id, k)
	}
	d.sent[id] += len(f.Body)
	if f.Has(api.End) != (d.ends[id] && d.sent[id] == len(d.written[id])) {
		d.t.Fatalf("P12: End of the stream %d at %d of %d bytes", id, d.sent[id], len(d.written[id]))
	}
	k.endOut = f.Has(api.End)
	if all, ofIt := sum(d.sent)-sum(d.read), d.sent[id]-d.read[id]; all > api.ConnWindow || ofIt > api.StreamWindow {
		d.t.Fatalf("P15: %d bytes of the stream %d, %d of all are on their way or unread", ofIt, id, all)
	}
}

// bring brings bytes to the other end, which tells of them what the model does.
func (d *side) bring(size int) {
	size = min(size, len(d.pipe))
	handed := slices.Clone(d.pipe[:size])
	d.to.In(handed)
	if !bytes.Equal(handed, d.pipe[:size]) {
		d.t.Fatalf("P2: In left %v", handed)
	}
	spoil(handed)
	d.come = append(d.come, d.pipe[:size]...)
	d.pipe = d.pipe[size:]
	var want []api.Event
	for {
		f, rest, came := wire.Cut(d.come)
		if came != wire.Wholly {
			break
		}
		want = append(want, d.arrive(f)...)
		d.come = rest
	}
	events := d.to.Events()
	if !slices.Equal(events, want) {
		d.t.Fatalf("P15: the events %v, want %v", events, want)
	}
	clear(events[:cap(events)])
	d.back.ables()
}

// arrive is what a frame that comes does at the other end.
func (d *side) arrive(f wire.Frame) []api.Event {
	there, k := d.back, d.back.know(f.Stream)
	switch f.Kind {
	case api.Open, api.More:
		d.heard = f.Stream
		if f.Has(api.Whole) {
			return d.headersCome(f.Stream, k)
		}
	case api.Data:
		d.came[f.Stream] += len(f.Body)
		k.endIn = f.Has(api.End)
		switch {
		case k.reset:
			d.read[f.Stream] = d.came[f.Stream]
		case k.endIn:
			return []api.Event{ended(f.Stream)}
		}
	case api.Reset:
		k.resetIn = true
		if !k.reset && !k.over() {
			there.wasReset(f.Stream, -1)
			return []api.Event{broke(f.Stream, int(f.Body[0]))}
		}
	case api.Ping:
		if f.Has(api.Ack) {
			there.pongs++
			return []api.Event{{Kind: api.Pong, Code: there.pongs}}
		}
	case api.Away:
		there.peerLeaves = true
		return []api.Event{leaving(wire.Two(f.Body), int(f.Body[2]))}
	case api.Window:
		there.given[f.Stream] += wire.Two(f.Body)
	}
	return nil
}

// headersCome: no stream is refused but by an end that is leaving.
func (d *side) headersCome(id int, k *known) []api.Event {
	if d.back.leaving {
		d.back.wasReset(id, api.Refused)
		return nil
	}
	k.headOut = true
	d.back.open = append(d.back.open, id)
	return []api.Event{opened(id)}
}

// wasReset: at the sender's end. What was unread there is dropped.
func (d *side) wasReset(id, code int) {
	d.know(id).reset, d.know(id).code = true, code
	d.back.read[id] = d.back.came[id]
}

func (d *side) want(what string, got, want api.Errno) {
	if got != want {
		d.t.Fatalf("P15: %s = %d, want %d", what, got, want)
	}
}

func (d *side) begin(headers []api.Pair) {
	next := d.from.mine.first + 2*len(d.own)
	want := api.OK
	switch {
	case d.leaving || d.peerLeaves:
		want = api.ErrGone
	case d.counting() >= d.limit || next > api.MaxId:
		want = api.ErrMany
	}
	handed := slices.Clone(headers)
	id, errno := d.from.Open(handed)
	d.want("Open", errno, want)
	spoilPairs(handed)
	if errno != api.OK {
		return
	}
	if id != next {
		d.t.Fatalf("P6: Open = %d, want %d", id, next)
	}
	d.own, d.open, d.headers[id] = append(d.own, id), append(d.open, id), headers
}

// unwritable is why nothing more can be said on a stream, or OK.
func (d *side) unwritable(id int) api.Errno {
	switch {
	case d.know(id).reset:
		return api.ErrReset
	case d.ends[id]:
		return api.ErrEnded
	}
	return api.OK
}

func (d *side) write(id, size int) {
	data := bytesFrom(id+len(d.written[id]), size)
	handed := slices.Clone(data)
	n, errno := d.from.Write(id, handed)
	d.want("Write", errno, d.unwritable(id))
	spoil(handed)
	if room := api.MaxBuffer - len(d.written[id]) + d.sent[id]; errno == api.OK && n != min(size, room) || errno != api.OK && n != 0 {
		d.t.Fatalf("P8: Write of %d bytes = %d, where there was room for %d", size, n, room)
	}
	d.written[id] = append(d.written[id], data[:n]...)
}

func (d *side) end(id int) {
	d.want("End", d.from.End(id), d.unwritable(id))
	d.ends[id] = d.ends[id] || !d.know(id).reset
}

func (d *side) breakOff(id int) {
	k, want := d.know(id), api.OK
	switch {
	case k.reset:
		want = api.ErrReset
	case k.over():
		want = api.ErrEnded
	}
	d.want("Reset", d.from.Reset(id), want)
	if want == api.OK {
		d.wasReset(id, api.Cancel)
	}
}

// take reads of a stream at the other end.
func (d *side) take(id, most int) {
	b, errno := d.to.Read(id, most)
	size := min(most, d.came[id]-d.read[id])
	k, want := d.back.know(id), api.OK
	switch {
	case !slices.Contains(d.back.open, id):
		// It has not come to it, or only partly, or it was refused.
		want = api.ErrStream
		if k.reset || id <= d.heard {
			want = api.ErrReset
		}
	case k.reset:
		want = api.ErrReset
	case k.endIn && d.came[id] == d.read[id]:
		want = api.ErrEnded
		if d.read[id] < len(d.written[id]) || !d.ends[id] {
			d.t.Fatalf("P15: ErrEnded at %d of %d bytes", d.read[id], len(d.written[id]))
		}
	}
	d.want("Read", errno, want)
	if errno != api.OK {
		size = 0
	}
	if !bytes.Equal(b, d.written[id][d.read[id]:][:size]) {
		d.t.Fatalf("P15: of the stream %d came %v", id, b)
	}
	d.read[id] += size
	spoil(b)
}

func (d *side) ping() {
	d.pings++
	if n, errno := d.from.Ping(); n != d.pings || errno != api.OK {
		d.t.Fatalf("P11: Ping = %d, %d, want %d", n, errno, d.pings)
	}
}

func (d *side) away() {
	if d.leaving {
		d.want("Away", d.from.Away(), api.ErrGone)
		return
	}
	d.want("Away", d.from.Away(), api.OK)
	d.leaving, d.last = true, d.back.heard
}
