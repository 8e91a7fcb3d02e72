package ferry

import (
	"slices"
	"strconv"
	"testing"

	"ferry/api"
)

// How many things a journey may do: streams alone, or with resets and pings, or with ends that leave besides.
const (
	plainSteps   = 17
	breakSteps   = 21
	leavingSteps = 22
)

// step does one thing of the sender's, by two numbers.
func (d *side) step(what, n int) {
	id := 0
	if len(d.open) > 0 {
		id = d.open[max(0, len(d.open)-1-n%8)]
		if n%16 > 12 {
			id = d.open[n/16%len(d.open)]
		}
	}
	switch {
	case what < 2 || id == 0:
		d.begin([][]api.Pair{get(), long(65), longest()}[n%3])
	case what < 6:
		d.write(id, n)
	case what < 7 && n < 100:
		d.end(id)
	case what < 11:
		d.take(id, n/2)
	case what < 14:
		d.send([]int{6, 7, 14, 70, 100, 300, far}[n%7])
	case what < plainSteps:
		d.bring([]int{1, 5, 6, 7, 64, 70, 100, far}[n%8])
	case what < plainSteps+3:
		d.breakOff(id)
	case what < breakSteps:
		d.ping()
	case n < 4:
		d.away()
	}
	d.ables()
}

// settle brings all to its end: everything is sent, comes and is read, till nothing goes any more.
func settle(sides []*side) {
	for range 200 {
		for _, d := range sides {
			d.send(far)
			d.bring(far)
			for _, id := range d.open {
				d.take(id, far)
			}
		}
	}
}

// arrived: all that was written, and not reset, was read; no window is lost; nothing is on its way.
func (d *side) arrived() {
	for _, id := range d.open {
		if d.know(id).reset || d.back.know(id).reset {
			continue
		}
		if d.read[id] != len(d.written[id]) {
			d.t.Fatalf("P15: of the stream %d %d of %d bytes were read", id, d.read[id], len(d.written[id]))
		}
		if _, errno := d.to.Read(id, 1); (errno == api.ErrEnded) != d.ends[id] {
			d.t.Fatalf("P15: Read = %d behind all", errno)
		}
	}
	if given := d.given[0]; given != sum(d.sent) || d.from.window.from != api.ConnWindow || d.to.window.to != api.ConnWindow {
		d.t.Fatalf("P15: of %d bytes of the window of all together %d were given back", sum(d.sent), given)
	}
	if len(d.pipe)+len(d.come) > 0 || d.pongs != d.pings {
		d.t.Fatalf("P15: %v is left on its way, %d of %d pings were answered", d.pipe, d.pongs, d.pings)
	}
	d.headersStay()
}

// headersStay: what the peer has opened keeps its headers, whatever became of it.
func (d *side) headersStay() {
	for _, id := range d.own {
		headers, errno := d.to.Headers(id)
		if heard := slices.Contains(d.back.open, id); heard != (errno == api.OK) || heard && !slices.Equal(headers, d.headers[id]) {
			d.t.Fatalf("P7: Headers(%d) = %q, %d", id, headers, errno)
		}
		spoilPairs(headers)
	}
}

// meet is two ends that know each other's Settings.
func meet(t *testing.T, client, server int) []*side {
	c, _ := New(true, client)
	s, _ := New(false, server)
	there, back := newSide(t, c, s), newSide(t, s, c)
	there.back, back.back = back, there
	for range 2 {
		carry(c, s, 9)
		carry(s, c, 9)
	}
	return []*side{there, back}
}

func journey(t *testing.T, seed uint32) {
	sides := meet(t, int(seed/3%7), int(seed/21%7))
	kinds := []int{plainSteps, breakSteps, leavingSteps}[seed%3]
	n := noise(seed, 3*1500)
	for i := 0; i < len(n); i += 3 {
		sides[n[i]%2].step(int(n[i+1])%kinds, int(n[i+2]))
	}
	settle(sides)
	for range 2 {
		for _, d := range sides {
			d.arrived()
		}
	}
}

// Whatever two ends that keep to it do, in whatever order and pieces: it comes as P15 says.
func TestJourneys(t *testing.T) {
	for seed := range uint32(900) {
		t.Run(strconv.Itoa(int(seed)), func(t *testing.T) { journey(t, seed) })
	}
}
