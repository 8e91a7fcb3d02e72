package ferry

import (
	"bytes"
	"slices"
	"testing"

	"ferry/api"
)

func TestOpenFrameOfAWrongStream(t *testing.T) {
	for _, end := range []struct {
		client bool
		known  int
		wrong  []int
	}{
		{false, 0, []int{0, 2, 4, 65534}},
		{false, 1, []int{0, 1, 2, 4}},
		{false, 7, []int{0, 1, 2, 3, 5, 6, 7, 8, 65534}},
		{false, 65535, []int{0, 1, 2, 65533, 65534, 65535}},
		{true, 0, []int{0, 1, 3, 65535}},
		{true, 2, []int{0, 1, 2, 3, 5}},
		{true, 8, []int{0, 1, 2, 4, 6, 7, 8, 9}},
		{true, 65534, []int{0, 2, 65532, 65534, 65535}},
	} {
		for _, id := range end.wrong {
			for flags := range 4 {
				c := newEnd(t, end.client, 6)
				if end.known > 0 {
					c.In(openFrame(end.known))
					wantEvents(t, c, opened(end.known))
				}
				c.In(frame(api.Open, flags, id, 0))
				wantFailure(t, c, end.known, api.Protocol)
			}
		}
	}
}

// A stream that this end has opened is not the peer's, whatever it does.
func TestOpenFrameOfOnesOwnStream(t *testing.T) {
	c := newEnd(t, true, 6)
	wantOpen(t, c, get(), 1, api.OK)
	c.In(openFrame(1))
	wantFailure(t, c, 0, api.Protocol)
}

func TestOpenFrameOfARefusedStream(t *testing.T) {
	for _, gone := range []bool{false, true} {
		s := newEnd(t, false, 0)
		s.In(openFrame(3))
		if gone {
			wantOut(t, s, far, frame(api.Reset, 0, 3, api.Refused))
		}
		s.In(openFrame(3))
		wantFailure(t, s, 3, api.Protocol)
	}
}

func TestNumbersThatAreLeftOut(t *testing.T) {
	s := newEnd(t, false, 3)
	for _, id := range []int{5, 101, 65535} {
		s.In(openFrame(id))
		wantEvents(t, s, opened(id))
		wantHeaders(t, s, id, get())
	}
	wantNoStream(t, s, 1, 3, 7, 99, 103, 65533)
	wantOut(t, s, far)
	c := newEnd(t, true, 1)
	c.In(openFrame(65534))
	wantEvents(t, c, opened(65534))
	wantNoStream(t, c, 2, 65532)
}

func TestMoreWhenNoneCome(t *testing.T) {
	for _, ahead := range [][]byte{nil, openFrame(1), frame(api.Settings, api.Ack, 0), slices.Concat(frame(api.Open, 0, 1), frame(api.More, api.Whole, 1, 129))} {
		for _, id := range []int{0, 1, 2, 3} {
			for flags := range 4 {
				s := newEnd(t, false, 3)
				s.In(ahead)
				s.Events()
				s.In(frame(api.More, flags, id, 129))
				wantFailure(t, s, s.theirs.last, api.Protocol)
			}
		}
	}
	s := newEnd(t, false, 0)
	s.In(openFrame(1))
	s.In(frame(api.More, api.Whole, 1, 129))
	wantFailure(t, s, 1, api.Protocol)
}

// headersOf sends so many bytes 129 as headers of the stream 1, in bodies of at most that size; the last one has these flags.
func headersOf(s *Conn, size, body, last int) {
	kind := api.Open
	for piece := range slices.Chunk(bytes.Repeat([]byte{129}, size), body) {
		flags := 0
		if size -= len(piece); size == 0 {
			flags = last
		}
		s.In(frame(kind, flags, 1, piece...))
		kind = api.More
	}
}

func TestHeadersOfTooManyBytes(t *testing.T) {
	for _, body := range []int{1, 7, 40, 50, 63, 64} {
		for size, code := range map[int]int{api.MaxHeaders + 1: api.Packing, 500: api.Packing, api.MaxBlock - 1: api.Packing, api.MaxBlock: api.Packing, api.MaxBlock + 1: api.Size} {
			for _, last := range []int{api.Whole, 255} {
				s := newEnd(t, false, 3)
				headersOf(s, size, body, last)
				wantFailure(t, s, 1, code)
			}
		}
		s := newEnd(t, false, 3)
		headersOf(s, api.MaxBlock, body, 0)
		s.In(frame(api.More, 0, 1))
		wantEvents(t, s)
		s.In(frame(api.More, 0, 1, 129))
		wantFailure(t, s, 1, api.Size)
	}
}

func TestHeadersThatUnpackDoesNotTake(t *testing.T) {
	for _, b := range []string{"", "\x80", "\x87", "\x00\x01A\x00", "\x00\x01x\x01", "\x81\x00", "\x88", "\x47\x02\x01\x1f", "\x87\x0a"} {
		for _, streams := range []int{0, 3} {
			for cut := range len(b) + 1 {
				s := newEnd(t, false, streams)
				s.In(frame(api.Open, api.End, 5, []byte(b[:cut])...))
				wantEvents(t, s)
				s.In(frame(api.More, api.Whole, 5, []byte(b[cut:])...))
				wantFailure(t, s, 5, api.Packing)
				wantNoStream(t, s, 5)
			}
			s := newEnd(t, false, streams)
			s.In(frame(api.Open, api.Whole|api.End, 5, []byte(b)...))
			wantFailure(t, s, 5, api.Packing)
		}
	}
}

// A limit on streams holds for the end that was made with it.
func TestStreamsMoreThanNewWasTold(t *testing.T) {
	for _, client := range []bool{true, false} {
		first := 1
		if client {
			first = 2
		}
		for streams := range api.MaxStreams + 1 {
			c := newEnd(t, client, streams)
			c.In(frame(api.Settings, 0, 0, 6))
			wantOpen(t, c, get(), c.mine.next(), api.OK)
			for i := range 2 * api.MaxStreams {
				id := first + 4*i
				c.In(frame(api.Open, api.Whole|api.End*(i%2), id, 129))
				switch {
				case i >= streams:
					wantEvents(t, c)
					wantNoStream(t, c, id)
				case i%2 == 1:
					wantEvents(t, c, opened(id), ended(id))
				default:
					wantEvents(t, c, opened(id))
				}
			}
			want := [][]byte{frame(api.Settings, api.Ack, 0), openFrame(c.mine.first)}
			for i := streams; i < 2*api.MaxStreams; i++ {
				want = append(want, frame(api.Reset, 0, first+4*i, api.Refused))
			}
			wantOut(t, c, far, want...)
			c.In(openFrame(1000 + first))
			wantEvents(t, c)
			wantOut(t, c, far, frame(api.Reset, 0, 1000+first, api.Refused))
		}
	}
}

// End is a matter of the Open frame; no flag of a More means that.
func TestOpenFrameWithEnd(t *testing.T) {
	for flags := range 256 {
		s := newEnd(t, false, 1)
		s.In(frame(api.Open, flags, 1, 129))
		if flags&api.Whole == 0 {
			wantEvents(t, s)
			wantNoStream(t, s, 1)
			s.In(frame(api.More, 255, 1))
		}
		if flags&api.End != 0 {
			wantEvents(t, s, opened(1), ended(1))
		} else {
			wantEvents(t, s, opened(1))
		}
		wantHeaders(t, s, 1, get())
		wantOut(t, s, far)
	}
}

// Of a More frame only Whole means something.
func TestMoreFrameFlags(t *testing.T) {
	for flags := range 256 {
		s := newEnd(t, false, 1)
		s.In(frame(api.Open, 0, 1, 129))
		s.In(frame(api.More, flags, 1, 131))
		if flags&api.Whole == 0 {
			wantEvents(t, s)
			wantNoStream(t, s, 1)
		} else {
			wantEvents(t, s, opened(1))
			wantHeaders(t, s, 1, append(get(), one(":path", "/")...))
		}
	}
}
