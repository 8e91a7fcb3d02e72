package ferry

import (
	"math"
	"slices"
	"testing"

	"ferry/api"
)

func TestOpenLooksAtHeaders(t *testing.T) {
	c := newEnd(t, true, 0)
	wrong := [][]api.Pair{nil, {}, one("X", "1"), one("x", "\n"), append(get(), one("", "")...), slices.Repeat(get(), api.MaxHeaders+1)}
	for _, headers := range wrong {
		wantOpen(t, c, headers, 0, api.ErrHeader)
	}
	wantOut(t, c, far)
	wantOpen(t, c, get(), 1, api.OK)
	for _, headers := range wrong {
		wantOpen(t, c, headers, 0, api.ErrHeader)
	}
	wantOpen(t, c, get(), 0, api.ErrMany)
	c.In([]byte{0, 65, 0, 0, 0, 0})
	for _, headers := range wrong {
		wantOpen(t, c, headers, 0, api.ErrHeader)
	}
	wantOpen(t, c, get(), 0, api.ErrGone)
}

func TestOpenBehindAFailure(t *testing.T) {
	for _, limit := range []byte{0, 1, api.MaxStreams} {
		c := newEnd(t, false, 3)
		c.In(frame(api.Settings, 0, 0, limit))
		c.In(frame(api.Settings, 0, 1, limit))
		wantOpen(t, c, get(), 0, api.ErrGone)
		wantOut(t, c, far, frame(api.Settings, api.Ack, 0), awayFrame(0, api.Protocol))
	}
}

func TestOpenAtTheLimit(t *testing.T) {
	for _, client := range []bool{true, false} {
		first := 2
		if client {
			first = 1
		}
		c := newEnd(t, client, 0)
		wantOpen(t, c, get(), first, api.OK)
		wantOpen(t, c, get(), 0, api.ErrMany)
		for limit := range api.MaxStreams + 1 {
			c := newEnd(t, client, 0)
			c.In(frame(api.Settings, 0, 0, byte(limit)))
			for i := range limit {
				wantOpen(t, c, get(), first+2*i, api.OK)
			}
			wantOpen(t, c, get(), 0, api.ErrMany)
			wantOpen(t, c, one("", ""), 0, api.ErrHeader)
		}
	}
}

// The peer may change its mind; what is open stays.
func TestLimitThatChanges(t *testing.T) {
	c := newEnd(t, true, 0)
	for _, step := range []struct{ limit, opens int }{{2, 2}, {1, 0}, {3, 1}, {0, 0}, {3, 0}, {6, 3}} {
		c.In(frame(api.Settings, 0, 0, byte(step.limit)))
		for range step.opens {
			wantOpen(t, c, get(), c.mine.next(), api.OK)
		}
		wantOpen(t, c, get(), 0, api.ErrMany)
	}
	wantEvents(t, c)
	want := slices.Repeat([][]byte{frame(api.Settings, api.Ack, 0)}, 6)
	for id := 1; id <= 11; id += 2 {
		want = append(want, openFrame(id))
	}
	wantOut(t, c, far, want...)
}

// Streams of the peer are none of one's own.
func TestLimitIsOfOnesOwn(t *testing.T) {
	c := newEnd(t, true, 2)
	c.In(slices.Concat(openFrame(2), openFrame(4)))
	wantOpen(t, c, get(), 1, api.OK)
	wantOpen(t, c, get(), 0, api.ErrMany)
	s := newEnd(t, false, 1)
	wantOpen(t, s, get(), 2, api.OK)
	s.In(openFrame(1))
	wantEvents(t, s, opened(1))
}

func TestOpenUpToMaxId(t *testing.T) {
	for _, end := range []struct {
		client bool
		last   int
	}{{true, api.MaxId}, {false, api.MaxId - 1}} {
		c := newEnd(t, end.client, 0)
		c.In(frame(api.Settings, 0, 0, api.MaxStreams))
		for id := c.mine.first; id <= end.last; id += 2 {
			wantOpen(t, c, get(), id, api.OK)
			wantEnd(t, c, id, api.OK)
			c.Out(far)
			c.In(dataFrame(id, api.End, nil))
		}
		for range 3 {
			wantOpen(t, c, get(), 0, api.ErrMany)
		}
		if c.mine.last != end.last {
			t.Errorf("P1: Open came to %d, want %d", c.mine.last, end.last)
		}
		wantOpen(t, c, nil, 0, api.ErrHeader)
	}
}

func TestFramesOfHeaders(t *testing.T) {
	for _, c := range []struct {
		headers []api.Pair
		sizes   []int
	}{
		{get(), []int{1}},
		{long(63), []int{63}},
		{long(64), []int{64}},
		{long(65), []int{64, 1}},
		{long(66), []int{64, 2}},
		{append(long(64), long(64)...), []int{64, 64}},
		{append(long(65), long(64)...), []int{64, 64, 1}},
		{longest(), []int{64, 64, 64, 64, 64, 64, 64, 64, 64, 64, 32}},
	} {
		packed, _ := Pack(c.headers)
		var want [][]byte
		kind := api.Open
		for i, size := range c.sizes {
			flags := 0
			if i == len(c.sizes)-1 {
				flags = api.Whole
			}
			want = append(want, frame(kind, flags, 1, packed[:size]...))
			kind, packed = api.More, packed[size:]
		}
		end := newEnd(t, true, 0)
		wantOpen(t, end, c.headers, 1, api.OK)
		room := len(slices.Concat(want...))
		wantOut(t, end, room-1)
		wantOut(t, end, room, want...)
		wantOut(t, end, far)
	}
}

func TestHeadersOfWhatIsNone(t *testing.T) {
	s := newEnd(t, false, 2)
	all := []int{math.MinInt, -3, -2, -1, 0, 1, 2, 3, 4, 5, 6, 7, 9, 65535, 65537, far - 1, far}
	wantNoStream(t, s, all...)
	wantOpen(t, s, get(), 2, api.OK)
	wantNoStream(t, s, all...)
	wantOut(t, s, far, openFrame(2))
	wantNoStream(t, s, all...)
	s.In(openFrame(3))
	wantHeaders(t, s, 3, get())
	wantNoStream(t, s, 0, 1, 2, 4, 5, 3+65536, 3-65536, -3)
	s.In(frame(api.Open, 0, 7, 131))
	wantNoStream(t, s, 1, 5, 7)
	s.In(frame(api.More, api.Whole, 7))
	wantHeaders(t, s, 7, one(":path", "/"))
	s.In(openFrame(11))
	wantNoStream(t, s, 1, 5, 9, 11, 13)
	wantOut(t, s, far, frame(api.Reset, 0, 11, api.Refused))
	wantNoStream(t, s, 11)
	s.In(frame(api.Open, 0, 13, 129))
	s.In(frame(api.Ping, 0, 0, 0, 0))
	wantEvents(t, s, opened(3), opened(7), failed(api.Protocol))
	wantNoStream(t, s, 1, 2, 5, 9, 11, 13)
	wantHeaders(t, s, 3, get())
	wantHeaders(t, s, 7, one(":path", "/"))
}

func TestHeadersOfManyStreams(t *testing.T) {
	c := newEnd(t, true, 3)
	lists := [][]api.Pair{longest(), append(get(), get()...), one("x", "")}
	for i, headers := range lists {
		packed, _ := Pack(headers)
		c.In(frame(api.Open, api.End, 2*i+2))
		for _, x := range packed {
			c.In(frame(api.More, 0, 2*i+2, x))
		}
		c.In(frame(api.More, api.Whole, 2*i+2))
	}
	wantEvents(t, c, opened(2), ended(2), opened(4), ended(4), opened(6), ended(6))
	for i, headers := range lists {
		wantHeaders(t, c, 2*i+2, headers)
		wantHeaders(t, c, 2*i+2, headers)
	}
}
