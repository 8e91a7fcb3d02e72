package ferry

import (
	"slices"
	"testing"

	"ferry/api"
)

func TestWindowOfNoStream(t *testing.T) {
	for _, id := range []int{4, 6, 15, 17, 65534, 65535} {
		for _, body := range [][]byte{nil, {1}, {0, 1}, {0, 0}, {255, 255}, {0, 1, 2}} {
			s := allKinds(t)
			s.In(frame(api.Window, 0, id, body...))
			wantFailure(t, s, 13, api.Protocol)
		}
	}
}

// A body that is wrong is so for every stream, whatever became of it.
func TestWindowBodies(t *testing.T) {
	for _, id := range []int{0, 1, 2, 3, 5, 7, 9, 11, 13} {
		for _, size := range []int{0, 1, 3, 64} {
			s := allKinds(t)
			s.In(frame(api.Window, 0, id, make([]byte, size)...))
			wantFailure(t, s, 13, api.Size)
		}
		s := allKinds(t)
		s.In(windowFrame(id, 0))
		wantFailure(t, s, 13, api.Protocol)
	}
}

func TestWindowUpToMaxWindow(t *testing.T) {
	for _, c := range []struct{ id, size, code int }{
		{0, api.MaxWindow - api.ConnWindow, 0}, {0, api.MaxWindow - api.ConnWindow + 1, api.Flow}, {0, 65535, api.Flow}, {0, 1, 0},
		{2, api.MaxWindow - api.StreamWindow, 0}, {2, api.MaxWindow - api.StreamWindow + 1, api.Flow},
		{3, api.MaxWindow - api.StreamWindow, 0}, {3, api.MaxWindow - api.StreamWindow + 1, api.Flow}, {3, 65535, api.Flow}, {3, 1, 0},
		{7, api.MaxWindow - api.StreamWindow, 0}, {7, api.MaxWindow - api.StreamWindow + 1, api.Flow},
	} {
		s := allKinds(t)
		s.In(windowFrame(c.id, c.size))
		if c.code != 0 {
			wantFailure(t, s, 13, c.code)
			continue
		}
		wantEvents(t, s)
		first := api.StreamWindow
		if c.id == 0 {
			first = api.ConnWindow
		}
		s.In(windowFrame(c.id, api.MaxWindow-first-c.size+1))
		wantFailure(t, s, 13, api.Flow)
	}
}

// Bytes that have left make room for as many.
func TestWindowBehindData(t *testing.T) {
	for _, more := range []int{0, 1} {
		for _, id := range []int{0, 1} {
			c := sender(t, 1)
			wantWrite(t, c, 1, make([]byte, 30), 30, api.OK)
			c.In(windowFrame(0, api.MaxWindow-api.ConnWindow))
			c.In(windowFrame(1, api.MaxWindow-api.StreamWindow))
			wantOut(t, c, far, dataFrame(1, 0, make([]byte, 30)))
			c.In(windowFrame(id, 30+more))
			if more == 0 {
				wantEvents(t, c)
			} else {
				wantFailure(t, c, 0, api.Flow)
			}
		}
	}
}

// For a stream on which this end sends nothing any more a Window frame is nothing, however much it gives.
func TestWindowForNothing(t *testing.T) {
	for _, id := range []int{1, 5, 9, 11, 13} {
		s := allKinds(t)
		for range 3 {
			s.In(windowFrame(id, 65535))
			s.In(windowFrame(id, 1))
		}
		wantEvents(t, s)
		wantOut(t, s, far)
	}
	s := newEnd(t, false, 0)
	s.In(openFrame(3))
	s.In(windowFrame(3, 65535))
	wantEvents(t, s)
	wantOut(t, s, far, frame(api.Reset, 0, 3, api.Refused))
}

// An end that was called for, but has not gone out, is none yet.
func TestWindowWhileTheEndWaits(t *testing.T) {
	for _, gone := range []bool{false, true} {
		c := sender(t, 1)
		wantEnd(t, c, 1, api.OK)
		if gone {
			wantOut(t, c, far, dataFrame(1, api.End, nil))
		}
		c.In(windowFrame(1, api.MaxWindow))
		if gone {
			wantEvents(t, c)
		} else {
			wantFailure(t, c, 0, api.Flow)
		}
	}
}

// No flag of a Window frame means something; it may come ahead of everything.
func TestWindowFlags(t *testing.T) {
	for flags := range 256 {
		c := newEnd(t, true, 0)
		wantOpen(t, c, get(), 1, api.OK)
		c.In(frame(api.Window, flags, 1, 0, 20))
		c.In(frame(api.Window, flags, 0, 0, 1))
		wantWrite(t, c, 1, bytesFrom(0, 130), 130, api.OK)
		wantOut(t, c, far, openFrame(1), dataFrame(1, 0, bytesFrom(0, 64)), dataFrame(1, 0, bytesFrom(64, 56)))
		wantEvents(t, c)
	}
}

// A window is that of the stream which is named, and gives what both its bytes say.
func TestWindowsAreApart(t *testing.T) {
	c := sender(t, 2)
	c.In(slices.Concat(windowFrame(0, 600), windowFrame(3, 256+50)))
	wantWrite(t, c, 1, bytesFrom(0, 200), 200, api.OK)
	wantWrite(t, c, 3, bytesFrom(0, 200), 200, api.OK)
	piece := func(id, first, size int) []byte { return dataFrame(id, 0, bytesFrom(first, size)) }
	wantOut(t, c, far, piece(1, 0, 64), piece(3, 0, 64), piece(1, 64, 36), piece(3, 64, 64), piece(3, 128, 64), piece(3, 192, 8))
	wantWrite(t, c, 3, bytesFrom(0, 256), 256, api.OK)
	wantOut(t, c, far, piece(3, 0, 64), piece(3, 64, 64), piece(3, 128, 64), piece(3, 192, 14))
	c.In(windowFrame(1, 1))
	wantOut(t, c, far, piece(1, 100, 1))
}
