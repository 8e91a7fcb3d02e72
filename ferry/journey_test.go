package ferry

import (
	"bytes"
	"maps"
	"slices"
	"testing"

	"ferry/api"
	"ferry/wire"
)

// side is one direction of a journey: what a test knows of it without looking into the ends.
type side struct {
	t        *testing.T
	from, to *Conn
	pipe     []byte // on its way
	come     []byte // of a frame that has not come wholly
	open     []int  // the streams that the sender may write to
	written  map[int][]byte
	sent     map[int]int
	read     map[int]int
	given    map[int]int // by Window frames that have come back to the sender; 0 is all together
	ends     map[int]bool
	turns    map[int]map[int]bool // of each stream that can go: who had a turn since
}

func newSide(t *testing.T, from, to *Conn) *side {
	return &side{t: t, from: from, to: to, written: map[int][]byte{}, sent: map[int]int{}, read: map[int]int{}, given: map[int]int{}, ends: map[int]bool{}, turns: map[int]map[int]bool{}}
}

func (d *side) allSent() int {
	all := 0
	for n := range maps.Values(d.sent) {
		all += n
	}
	return all
}

// able tells whether a stream has bytes, and windows for them.
func (d *side) able(id int) bool {
	return len(d.written[id]) > d.sent[id] && api.StreamWindow+d.given[id] > d.sent[id] && api.ConnWindow+d.given[0] > d.allSent()
}

// turn: a stream had one. No other one that could go all the time may have seen it twice.
func (d *side) turn(id int, ables []int) {
	for _, other := range ables {
		if other == id {
			continue
		}
		if d.turns[other] == nil {
			d.turns[other] = map[int]bool{}
		}
		if d.turns[other][id] {
			d.t.Fatalf("P15: the stream %d had two turns, %d none", id, other)
		}
		d.turns[other][id] = true
	}
	delete(d.turns, id)
}

// ables is the streams that can go. Who can't starts anew.
func (d *side) ables() []int {
	var l []int
	for _, id := range d.open {
		if d.able(id) {
			l = append(l, id)
		} else {
			delete(d.turns, id)
		}
	}
	return l
}

// send lets bytes go out, and looks at them.
func (d *side) send(room int) {
	b := d.from.Out(room)
	if len(b) > room {
		d.t.Fatalf("P12: Out(%d) is %d bytes", room, len(b))
	}
	d.pipe = append(d.pipe, b...)
	for len(b) > 0 {
		f, rest, came := wire.Cut(b)
		if came != wire.Wholly {
			d.t.Fatalf("P12: Out(%d) ends with %v", room, b)
		}
		d.look(f)
		b = rest
	}
}

func (d *side) look(f wire.Frame) {
	switch f.Kind {
	case api.Open:
		d.turn(f.Stream, d.ables())
	case api.Data:
		d.turn(f.Stream, d.ables())
		d.lookAtData(f)
	case api.Reset, api.Away:
		d.t.Fatalf("P15: %v went out", f)
	}
}

func (d *side) lookAtData(f wire.Frame) {
	id, before := f.Stream, d.sent[f.Stream]
	if !bytes.HasPrefix(d.written[id][before:], f.Body) {
		d.t.Fatalf("P15: %d bytes of the stream %d went out that were not written so", len(f.Body), id)
	}
	d.sent[id] += len(f.Body)
	if f.Has(api.End) != (d.ends[id] && d.sent[id] == len(d.written[id])) {
		d.t.Fatalf("P12: End of the stream %d at %d of %d bytes", id, d.sent[id], len(d.written[id]))
	}
	all := d.allSent()
	for n := range maps.Values(d.read) {
		all -= n
	}
	if all > api.ConnWindow || d.sent[id]-d.read[id] > api.StreamWindow {
		d.t.Fatalf("P15: %d bytes of the stream %d, %d of all are on their way or unread", d.sent[id]-d.read[id], id, all)
	}
}

// bring brings bytes to the other end. back is the other direction, whose windows they may give to.
func (d *side) bring(size int, back *side) {
	size = min(size, len(d.pipe))
	d.to.In(d.pipe[:size])
	d.come = append(d.come, d.pipe[:size]...)
	d.pipe = d.pipe[size:]
	for {
		f, rest, came := wire.Cut(d.come)
		if came != wire.Wholly {
			break
		}
		if f.Kind == api.Window {
			back.given[f.Stream] += wire.Two(f.Body)
		}
		d.come = rest
	}
	for _, e := range d.to.Events() {
		switch e.Kind {
		case api.Opened:
			back.open = append(back.open, e.Stream)
		case api.Ended:
		default:
			d.t.Fatalf("P15: the event %v", e)
		}
	}
	back.ables()
}

func (d *side) write(id, size int) {
	data := bytesFrom(id+len(d.written[id]), size)
	n, errno := d.from.Write(id, data)
	switch {
	case d.ends[id]:
		if errno != api.ErrEnded {
			d.t.Fatalf("P8: Write behind End = %d", errno)
		}
	case errno != api.OK || n != min(size, api.MaxBuffer-len(d.written[id])+d.sent[id]):
		d.t.Fatalf("P8: Write of %d bytes = %d, %d, where %d of %d had gone out", size, n, errno, d.sent[id], len(d.written[id]))
	}
	d.written[id] = append(d.written[id], data[:n]...)
}

func (d *side) end(id int) {
	if errno := d.from.End(id); (errno == api.OK) == d.ends[id] {
		d.t.Fatalf("P8: End = %d", errno)
	}
	d.ends[id] = true
}

// take reads of a stream at the other end.
func (d *side) take(id, most int) {
	b, errno := d.to.Read(id, most)
	switch errno {
	case api.OK:
		if !bytes.HasPrefix(d.written[id][d.read[id]:d.sent[id]], b) {
			d.t.Fatalf("P15: of the stream %d came %v", id, b)
		}
	case api.ErrEnded:
		if !d.ends[id] || d.read[id] < len(d.written[id]) {
			d.t.Fatalf("P15: ErrEnded at %d of %d bytes", d.read[id], len(d.written[id]))
		}
	case api.ErrStream, api.ErrReset:
		if _, e := d.to.Headers(id); e == api.OK || d.sent[id] > 0 && len(d.pipe) == 0 {
			d.t.Fatalf("P9: Read = %d of the stream %d", errno, id)
		}
	default:
		d.t.Fatalf("P15: Read = %d", errno)
	}
	d.read[id] += len(b)
}

// step does one thing of the sender's, by two numbers.
func (d *side) step(what, n int, back *side) {
	id := 0
	if len(d.open) > 0 {
		id = d.open[n%len(d.open)]
	}
	switch {
	case what < 1 || id == 0:
		if id, errno := d.from.Open([][]api.Pair{get(), long(65), longest()}[n%3]); errno == api.OK {
			d.open = append(d.open, id)
		}
	case what < 5:
		d.write(id, n)
	case what < 6 && n < 50:
		d.end(id)
	case what < 11:
		d.take(id, n/2)
	case what < 14:
		d.send([]int{6, 7, 14, 70, 100, 300, far}[n%7])
	default:
		d.bring([]int{1, 5, 6, 7, 64, 70, 100, far}[n%8], back)
	}
	d.ables()
}

// settle brings all to its end: everything is sent, comes and is read, till nothing goes any more.
func settle(sides []*side) {
	for range 200 {
		for i, d := range sides {
			d.send(far)
			d.bring(far, sides[1-i])
			for _, id := range d.open {
				d.take(id, far)
			}
		}
	}
}

// Whatever two ends that keep to it do, in whatever order and pieces: it comes as P15 says.
func TestJourneys(t *testing.T) {
	for seed := range uint32(400) {
		client, _ := New(true, int(seed%7))
		server, _ := New(false, int(seed/7%7))
		there, back := newSide(t, client, server), newSide(t, server, client)
		sides := []*side{there, back}
		for range 2 {
			carry(client, server, 9)
			carry(server, client, 9)
		}
		n := noise(seed, 3*1500)
		for i := 0; i < len(n); i += 3 {
			d := sides[n[i]%2]
			d.step(int(n[i+1]%16), int(n[i+2]), sides[1-n[i]%2])
		}
		settle(sides)
		for _, d := range sides {
			for _, id := range d.open {
				if d.read[id] != len(d.written[id]) {
					t.Fatalf("P15: journey %d: of the stream %d %d of %d bytes were read", seed, id, d.read[id], len(d.written[id]))
				}
				if _, errno := d.to.Read(id, 1); (errno == api.ErrEnded) != d.ends[id] {
					t.Fatalf("P15: journey %d: Read = %d behind all", seed, errno)
				}
			}
		}
		if slices.Max([]int{len(there.pipe), len(back.pipe)}) > 0 {
			t.Fatalf("P15: journey %d: something is left on its way", seed)
		}
	}
}
