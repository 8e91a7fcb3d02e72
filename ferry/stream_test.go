package ferry

import (
	"testing"

	"ferry/api"
)

func TestStatesThatCount(t *testing.T) {
	for s, want := range map[state]bool{idle: false, open: true, endedHere: true, endedThere: true, over: false, breaking: true, breakingEnded: true, parting: false, broken: false} {
		if s.counts() != want {
			t.Errorf("P6: a stream in the state %d counts: %v, want %v", s, !want, want)
		}
	}
}

func TestCountingOfMoves(t *testing.T) {
	o := opener{first: 1, most: 2, streams: map[int]*stream{}}
	one, three := o.keep(1), o.keep(3)
	for _, step := range []struct {
		s    *stream
		to   state
		want int
	}{{three, breaking, 2}, {one, endedThere, 2}, {one, endedHere, 2}, {three, broken, 1}, {three, broken, 1}, {one, breakingEnded, 1}, {one, parting, 0}, {one, broken, 0}} {
		step.s.move(step.to)
		if o.counting != step.want || o.full() != (step.want == 2) {
			t.Errorf("P6: with %d in the state %d there count %d, want %d", step.s.id, step.to, o.counting, step.want)
		}
	}
}

func TestWhoOpensANumber(t *testing.T) {
	client, server := opener{first: 1}, opener{first: 2}
	for id := -3; id < 10; id++ {
		if client.opens(id) != (id > 0 && id&1 == 1) || server.opens(id) != (id > 0 && id&1 == 0) {
			t.Errorf("P14: %d is the client's: %v, the server's: %v", id, client.opens(id), server.opens(id))
		}
	}
}

func TestStatesOfNumbers(t *testing.T) {
	s := newEnd(t, false, 1)
	wantOpen(t, s, get(), 2, api.OK)
	s.In(frame(api.Open, api.Whole, 5, 129))
	s.In(frame(api.Open, api.Whole|api.End, 9, 129))
	s.In(frame(api.Open, 0, 13, 129))
	for id, want := range map[int]state{-1: idle, 0: idle, 2: open, 4: idle, 1: broken, 3: broken, 5: open, 7: broken, 9: breaking, 11: broken, 13: broken, 15: idle, 17: idle} {
		if got := s.find(id).state; got != want {
			t.Errorf("P14: the stream %d is in the state %d, want %d", id, got, want)
		}
	}
}
