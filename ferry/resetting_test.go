package ferry

import (
	"testing"

	"ferry/api"
)

func TestResetFrameOfNoStream(t *testing.T) {
	for _, id := range []int{0, 4, 6, 15, 17, 65534, 65535} {
		for _, body := range [][]byte{nil, {1}, {1, 2}, make([]byte, api.MaxFrame)} {
			s := allKinds(t)
			s.In(frame(api.Reset, 0, id, body...))
			wantFailure(t, s, 13, api.Protocol)
		}
	}
}

// A body that is wrong is so for every stream, whatever became of it.
func TestResetFrameBodies(t *testing.T) {
	for _, id := range []int{1, 2, 3, 5, 7, 9, 11, 13} {
		for _, size := range []int{0, 2, 3, api.MaxFrame} {
			s := allKinds(t)
			s.In(frame(api.Reset, 0, id, make([]byte, size)...))
			wantFailure(t, s, 13, api.Size)
		}
	}
	for _, told := range []bool{false, true} {
		c := sender(t, 1)
		wantReset(t, c, api.OK, 1)
		if told {
			wantOut(t, c, far, resetFrame(1, api.Cancel))
		}
		c.In(frame(api.Reset, 0, 1))
		wantFailure(t, c, 0, api.Size)
	}
}

// Every code is told as it came, and no flag means something.
func TestResetFrameOfEveryCode(t *testing.T) {
	for code := range 256 {
		for _, id := range []int{2, 3, 7, 9} {
			s := allKinds(t)
			s.In(frame(api.Reset, 255-code, id, byte(code)))
			wantEvents(t, s, broke(id, code))
			wantOut(t, s, far)
			wantBroken(t, s, id)
			s.In(resetFrame(id, code))
			s.In(resetFrame(id, code+1))
			wantEvents(t, s)
			wantOut(t, s, far)
			if id != 2 {
				wantHeaders(t, s, id, get())
			}
		}
	}
}

// A stream that was reset, or is over, is not reset by the peer.
func TestResetFrameForNothing(t *testing.T) {
	for _, id := range []int{1, 5, 11, 13} {
		s := allKinds(t)
		s.In(resetFrame(id, 9))
		wantEvents(t, s)
		wantOut(t, s, far)
		if id == 5 {
			wantUnreadable(t, s, api.ErrEnded, 5)
			wantUnwritable(t, s, api.ErrEnded, 5)
			wantReset(t, s, api.ErrEnded, 5)
		} else {
			wantBroken(t, s, id)
		}
	}
	s := newEnd(t, false, 0)
	s.In(openFrame(3))
	s.In(resetFrame(3, 9))
	wantEvents(t, s)
	wantOut(t, s, far, resetFrame(3, api.Refused))
}

// What waits of the stream is dropped, and the others of the ring stay where they are.
func TestResetFrameDropsWhatWaits(t *testing.T) {
	for _, id := range []int{1, 3, 5, 7} {
		c := sender(t, 4)
		var want [][]byte
		for _, other := range []int{7, 1, 5, 3} {
			wantWrite(t, c, other, bytesFrom(other, 9), 9, api.OK)
			wantEnd(t, c, other, api.OK)
			if other != id {
				want = append(want, dataFrame(other, api.End, bytesFrom(other, 9)))
			}
		}
		c.In(resetFrame(id, 9))
		wantEvents(t, c, broke(id, 9))
		wantOut(t, c, far, want...)
		wantOut(t, c, far)
		wantBroken(t, c, id)
	}
}

// A peer that resets a stream of which it has not heard keeps its headers back.
func TestResetFrameAheadOfTheHeaders(t *testing.T) {
	c := newEnd(t, true, 0)
	wantOpen(t, c, get(), 1, api.OK)
	wantWrite(t, c, 1, []byte("x"), 1, api.OK)
	c.In(resetFrame(1, 9))
	wantEvents(t, c, broke(1, 9))
	wantOut(t, c, far)
	wantBroken(t, c, 1)
	wantOpen(t, c, get(), 3, api.OK)
	wantOut(t, c, far, openFrame(3))
}

func TestResetFrameDropsWhatIsUnread(t *testing.T) {
	for _, size := range []int{0, 1, 64, 100} {
		for _, ends := range []bool{false, true} {
			for _, id := range []int{2, 3} {
				s := allKinds(t)
				fill(s, id, size)
				want := []api.Event{broke(id, 9)}
				if ends {
					s.In(dataFrame(id, api.End, nil))
					want = []api.Event{ended(id), broke(id, 9)}
				}
				s.In(resetFrame(id, 9))
				wantEvents(t, s, want...)
				wantBroken(t, s, id)
				if size > 0 {
					wantOut(t, s, far, windowFrame(0, size))
				} else {
					wantOut(t, s, far)
				}
				wantWholeWindow(t, s)
			}
		}
	}
	s := allKinds(t)
	fill(s, 3, 90)
	wantRead(t, s, 3, 30, bytesFrom(0, 30))
	s.In(resetFrame(3, 9))
	wantOut(t, s, far, windowFrame(3, 30), windowFrame(0, 30), windowFrame(0, 60))
	wantEvents(t, s, broke(3, 9))
	wantWholeWindow(t, s)
}
