package ferry

import (
	"bytes"
	"slices"
	"testing"

	"ferry/api"
)

// The same bytes in pieces of every size do the same.
func TestInOfAnyPieces(t *testing.T) {
	packed, _ := Pack(longest())
	all := slices.Concat(
		frame(api.Settings, 0, 0, 3), openFrame(1), frame(77, 9, 9, 9, 9), frame(api.Open, api.End, 5, packed[:64]...),
		frame(api.More, 0, 5), frame(api.More, 0, 5, packed[64:100]...))
	for len(packed) > 164 {
		all = append(all, frame(api.More, 0, 5, packed[100:164]...)...)
		packed = packed[64:]
	}
	all = slices.Concat(all, frame(api.More, api.Whole, 5, packed[100:]...), openFrame(9), frame(api.Settings, 0, 0, 2), frame(api.Open, api.Whole, 3, 129), openFrame(11))
	for size := 1; size <= len(all); size++ {
		s := newEnd(t, false, 2)
		for piece := range slices.Chunk(all, size) {
			s.In(piece)
			s.In(nil)
			s.In([]byte{})
		}
		wantEvents(t, s, opened(1), opened(5), ended(5), failed(api.Protocol))
		wantOut(t, s, far, frame(api.Settings, api.Ack, 0), frame(api.Settings, api.Ack, 0), awayFrame(9, api.Protocol))
		wantHeaders(t, s, 1, get())
		wantHeaders(t, s, 5, longest())
	}
}

// Nothing is done ahead of a frame's last byte.
func TestInOfAFrameThatHasNotComeWholly(t *testing.T) {
	for _, b := range [][]byte{openFrame(1), frame(api.Settings, 0, 0, 0), frame(api.Settings, 0, 0), frame(api.More, 0, 1, 1, 2, 3), frame(api.Settings, api.Ack, 5)} {
		s := newEnd(t, false, 2)
		for _, x := range b[:len(b)-1] {
			s.In([]byte{x})
			wantEvents(t, s)
			wantOut(t, s, far)
			wantNoStream(t, s, 1)
		}
		s.In(b[len(b)-1:])
		if len(s.Events())+len(s.Out(far)) == 0 {
			t.Errorf("P13: %v did nothing", b)
		}
	}
}

func TestInOfABodyThatIsTooLong(t *testing.T) {
	for _, length := range []int{api.MaxFrame + 1, 255, 256, 320, 65535} {
		for kind := range 256 {
			head := []byte{byte(length >> 8), byte(length), byte(kind), 255, 0, 1}
			s := newEnd(t, false, 2)
			s.In(head[:5])
			wantEvents(t, s)
			wantOut(t, s, far)
			s.In(head[5:])
			wantFailure(t, s, 0, api.Size)
			s = newEnd(t, false, 2)
			s.In(slices.Concat(openFrame(3), frame(api.Open, 0, 5), head))
			wantEvents(t, s, opened(3), failed(api.Size))
			wantOut(t, s, far, awayFrame(5, api.Size))
			wantOver(t, s)
		}
	}
	s := newEnd(t, false, 2)
	s.In(frame(200, 0, 0, make([]byte, api.MaxFrame)...))
	s.In(frame(api.Settings, 0, 0, 1))
	wantEvents(t, s)
	wantOut(t, s, far, frame(api.Settings, api.Ack, 0))
}

func TestInBehindAFailure(t *testing.T) {
	s := newEnd(t, false, 2)
	s.In(slices.Concat(openFrame(1), openFrame(1), openFrame(3), frame(api.Settings, 0, 0, 3), []byte{0, 65, 0, 0, 0, 0}))
	wantEvents(t, s, opened(1), failed(api.Protocol))
	wantOut(t, s, far, awayFrame(1, api.Protocol))
	wantNoStream(t, s, 3)
	wantOver(t, s)
	wantHeaders(t, s, 1, get())
	for range 100 {
		s.In(make([]byte, 10000))
	}
	wantOver(t, s)
	if len(s.in) > 0 {
		t.Errorf("P14: %d bytes are kept behind a failure", len(s.in))
	}
}

func TestEventsAskedForTwice(t *testing.T) {
	s := newEnd(t, false, 6)
	wantEvents(t, s)
	s.In(openFrame(1))
	s.In(frame(api.Open, api.Whole|api.End, 3, 129))
	wantEvents(t, s, opened(1), opened(3), ended(3))
	wantEvents(t, s)
	s.In(openFrame(5))
	wantEvents(t, s, opened(5))
	s.In(frame(api.More, 0, 5))
	wantEvents(t, s, failed(api.Protocol))
	wantEvents(t, s)
}

func TestKindsThatAreNothing(t *testing.T) {
	s := newEnd(t, false, 1)
	for kind := api.Window + 1; kind < 256; kind++ {
		for _, id := range []int{0, 1, 2, 77, 65535} {
			s.In(frame(kind, 0, id))
			s.In(frame(kind, 255, id, bytes.Repeat([]byte{byte(kind)}, api.MaxFrame)...))
		}
	}
	wantEvents(t, s)
	wantOut(t, s, far)
	s.In(openFrame(1))
	wantOpen(t, s, get(), 2, api.OK)
	wantEvents(t, s, opened(1))
}

// While headers come, every frame but a More of their stream is wrong, even one that is wrong in another way besides.
func TestOtherFramesWhileHeadersCome(t *testing.T) {
	for kind := range 256 {
		for _, id := range []int{0, 1, 2, 3, 5, 7, 65535} {
			for _, body := range [][]byte{nil, {1}, {129, 0}, {0, 0, 0}, make([]byte, api.MaxFrame)} {
				for _, flags := range []int{0, 1, 2, 3, 255} {
					if kind == api.More && id == 5 {
						continue
					}
					s := newEnd(t, false, 3)
					s.In(openFrame(1))
					s.In(frame(api.Open, 0, 5, 129))
					s.In(frame(api.More, 0, 5))
					wantEvents(t, s, opened(1))
					s.In(frame(kind, flags, id, body...))
					wantFailure(t, s, 5, api.Protocol)
				}
			}
		}
	}
}
