package ferry

import (
	"testing"

	"ferry/api"
)

// stepsOfCounting is what may be done, step by step, to a stream 1 that is open. It counts till the last one of them is done.
func stepsOfCounting() map[string][]func(*testing.T, *Conn) {
	type step = func(*testing.T, *Conn)
	end := func(t *testing.T, c *Conn) { wantEnd(t, c, 1, api.OK) }
	reset := func(t *testing.T, c *Conn) { wantReset(t, c, api.OK, 1) }
	noRoom := func(t *testing.T, c *Conn) { wantOut(t, c, 5) }
	endGoes := func(t *testing.T, c *Conn) { wantOut(t, c, 6, dataFrame(1, api.End, nil)) }
	resetGoes := func(t *testing.T, c *Conn) { wantOut(t, c, 7, resetFrame(1, api.Cancel)) }
	resetComes := func(_ *testing.T, c *Conn) { c.In(resetFrame(1, 9)) }
	dataComes := func(_ *testing.T, c *Conn) { c.In(dataFrame(1, 0, nil)) }
	endComes := func(_ *testing.T, c *Conn) { c.In(dataFrame(1, api.End, nil)) }
	return map[string][]step{
		"reset goes":                           {reset, noRoom, resetGoes},
		"reset comes":                          {resetComes},
		"both reset":                           {reset, noRoom, resetComes},
		"reset behind the peer's end":          {endComes, reset, noRoom, resetGoes},
		"the peer's end behind a reset":        {reset, endComes, noRoom, resetGoes},
		"reset while the end waits":            {endComes, end, reset, noRoom, resetGoes},
		"the peer's end, no own one":           {end, reset, endComes, noRoom, resetGoes},
		"over behind a reset":                  {end, endGoes, reset, noRoom, dataComes, endComes},
		"reset behind one's own end":           {end, endGoes, reset, dataComes, noRoom, resetGoes},
		"both reset behind one's own end":      {end, endGoes, reset, dataComes, resetComes},
		"the peer's reset behind its end":      {endComes, resetComes},
		"the peer's reset behind one's end":    {end, endGoes, resetComes},
		"the peer's reset while the end waits": {end, endComes, resetComes},
		"both reset behind the peer's end":     {endComes, reset, resetComes},
	}
}

func TestWhenAnOwnStreamCounts(t *testing.T) {
	for name, steps := range stepsOfCounting() {
		t.Run(name, func(t *testing.T) {
			c := sender(t, 1)
			for _, step := range steps {
				wantOpen(t, c, get(), 0, api.ErrMany)
				step(t, c)
			}
			wantOpen(t, c, get(), 3, api.OK)
			wantOpen(t, c, get(), 0, api.ErrMany)
		})
	}
}

// A stream that comes is refused as long as another one counts.
func TestWhenAStreamOfThePeersCounts(t *testing.T) {
	for name, steps := range stepsOfCounting() {
		t.Run(name, func(t *testing.T) {
			for last := range len(steps) + 1 {
				s := newEnd(t, false, 1)
				s.In(openFrame(1))
				for _, step := range steps[:last] {
					step(t, s)
				}
				s.Events()
				s.In(openFrame(3))
				if last == len(steps) {
					wantEvents(t, s, opened(3))
				} else {
					wantEvents(t, s)
					wantBroken(t, s, 3)
				}
				s.Events()
			}
		})
	}
}

// A refused stream counts till the peer is told of it, or has given it up itself.
func TestRefusedStreamThatThePeerResets(t *testing.T) {
	for _, given := range []bool{false, true} {
		s := newEnd(t, false, 1)
		s.In(openFrame(1))
		s.In(openFrame(3))
		s.In(resetFrame(1, 9))
		if given {
			s.In(dataFrame(3, api.End, nil))
			s.In(resetFrame(3, 9))
			s.In(resetFrame(3, 9))
		}
		wantEvents(t, s, opened(1), broke(1, 9))
		s.In(openFrame(5))
		if given {
			wantEvents(t, s, opened(5))
			wantOut(t, s, far, resetFrame(3, api.Refused))
		} else {
			wantEvents(t, s)
			wantOut(t, s, far, resetFrame(3, api.Refused), resetFrame(5, api.Refused))
		}
		wantNoStream(t, s, 3)
		wantBroken(t, s, 3)
	}
}

// Both ends reset a stream at once, or one does what the other has ended: no stream behind it is refused for that.
func TestResetsThatCross(t *testing.T) {
	for _, ends := range []bool{false, true} {
		c, s := newEnd(t, true, 1), newEnd(t, false, 1)
		for id := 1; id < 20; id += 2 {
			wantOpen(t, c, get(), id, api.OK)
			s.In(c.Out(far))
			wantEvents(t, s, opened(id))
			if ends {
				wantEnd(t, s, id, api.OK)
				c.In(s.Out(far))
				wantEvents(t, c, ended(id))
				wantReset(t, s, api.OK, id)
				wantEnd(t, c, id, api.OK)
			} else {
				wantReset(t, s, api.OK, id)
				wantReset(t, c, api.OK, id)
			}
			b := c.Out(far)
			wantOpen(t, c, get(), id+2, api.OK)
			s.In(append(b, c.Out(far)...))
			wantEvents(t, s, opened(id+2))
			wantReset(t, s, api.OK, id+2)
			c.In(s.Out(far))
			wantEvents(t, c, broke(id+2, api.Cancel))
			id += 2
		}
	}
}

// Each end tells the other once, and neither is told of what it has done itself.
func TestOneResetFrameForAStream(t *testing.T) {
	c, s := newEnd(t, true, 1), newEnd(t, false, 1)
	wantOpen(t, c, get(), 1, api.OK)
	s.In(c.Out(far))
	wantReset(t, c, api.OK, 1)
	wantReset(t, s, api.OK, 1)
	there, back := c.Out(far), s.Out(far)
	if len(there) != 7 || len(back) != 7 {
		t.Errorf("P10: %v and %v went out", there, back)
	}
	c.In(back)
	s.In(there)
	wantEvents(t, c)
	wantEvents(t, s, opened(1))
	wantOut(t, c, far)
	wantOut(t, s, far)
}
