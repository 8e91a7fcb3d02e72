package ferry

import (
	"bytes"
	"slices"
	"testing"

	"ferry/api"
)

func spoil(b []byte) {
	b = b[:cap(b)]
	for i := range b {
		b[i] = 255
	}
}

func spoilPairs(l []api.Pair) {
	l = l[:cap(l)]
	for i := range l {
		l[i] = api.Pair{Name: "spoilt", Value: "spoilt"}
	}
}

func TestPackKeepsAndWritesNothing(t *testing.T) {
	all := []api.Pair{{Name: "x", Value: "1"}, {Name: ":path", Value: "/"}, {Name: "behind", Value: "it"}}
	handed := slices.Clone(all)
	first, _ := Pack(handed[:2])
	second, _ := Pack(handed[:2])
	if !slices.Equal(handed, all) {
		t.Errorf("P2: Pack left %q", handed)
	}
	spoilPairs(handed)
	spoil(first)
	third, _ := Pack(all[:2])
	want := []byte("\x00\x01x\x011\x83")
	if !bytes.Equal(second, want) || !bytes.Equal(third, want) {
		t.Errorf("P2: Pack = %q and %q, want %q", second, third, want)
	}
}

func TestUnpackKeepsAndWritesNothing(t *testing.T) {
	all := []byte("\x00\x01x\x011\x83behind")
	handed := slices.Clone(all)
	first, _ := Unpack(handed[:6])
	second, _ := Unpack(handed[:6])
	if !bytes.Equal(handed, all) {
		t.Errorf("P2: Unpack left %q", handed)
	}
	spoil(handed)
	spoilPairs(first)
	third, _ := Unpack(all[:6])
	want := []api.Pair{{Name: "x", Value: "1"}, {Name: ":path", Value: "/"}}
	if !slices.Equal(second, want) || !slices.Equal(third, want) {
		t.Errorf("P2: Unpack = %q and %q, want %q", second, third, want)
	}
}

func TestOpenKeepsAndWritesNothing(t *testing.T) {
	all := []api.Pair{{Name: "x", Value: "1"}, {Name: ":path", Value: "/"}, {Name: "behind", Value: "it"}}
	handed := slices.Clone(all)
	c := newEnd(t, true, 0)
	wantOpen(t, c, handed[:2], 1, api.OK)
	if !slices.Equal(handed, all) {
		t.Errorf("P2: Open left %q", handed)
	}
	spoilPairs(handed)
	wantOut(t, c, far, frame(api.Open, api.Whole, 1, []byte("\x00\x01x\x011\x83")...))
}

// inAndSpoil hands bytes in, and spoils them, and what stands behind them, afterwards.
func inAndSpoil(t *testing.T, c *Conn, b []byte) {
	t.Helper()
	handed := append(slices.Clone(b), "behind"...)
	before := slices.Clone(handed)
	c.In(handed[:len(b)])
	if !bytes.Equal(handed, before) {
		t.Errorf("P2: In left %v of %v", handed, before)
	}
	spoil(handed)
}

func TestInKeepsAndWritesNothing(t *testing.T) {
	all := slices.Concat(frame(api.Settings, 0, 0, 2), frame(api.Open, 0, 1, []byte("\x00\x01x")...), frame(api.More, api.Whole, 1, []byte("\x03abc")...))
	for cut := range len(all) {
		s := newEnd(t, false, 1)
		for _, piece := range [][]byte{all[:cut], all[cut:]} {
			inAndSpoil(t, s, piece)
		}
		wantEvents(t, s, opened(1))
		wantHeaders(t, s, 1, one("x", "abc"))
		wantOut(t, s, far, frame(api.Settings, api.Ack, 0))
	}
}

func TestHeadersThatComeOutAreFresh(t *testing.T) {
	s := newEnd(t, false, 1)
	s.In(frame(api.Open, api.Whole, 1, 129, 131, 130))
	want := append(get(), api.Pair{Name: ":path", Value: "/"}, api.Pair{Name: ":method", Value: "PUT"})
	first, _ := s.Headers(1)
	second, _ := s.Headers(1)
	spoilPairs(first)
	if !slices.Equal(second, want) {
		t.Errorf("P2: Headers became %q", second)
	}
	wantHeaders(t, s, 1, want)
}

// Three events leave spare room behind them, in which a fourth could stand.
func TestEventsThatComeOutAreFresh(t *testing.T) {
	s := newEnd(t, false, 6)
	s.In(openFrame(1))
	s.In(frame(api.Open, api.Whole|api.End, 3, 129))
	told := s.Events()
	s.In(openFrame(5))
	if !slices.Equal(told, []api.Event{opened(1), opened(3), ended(3)}) {
		t.Errorf("P2: Events became %v", told)
	}
	clear(told[:cap(told)])
	wantEvents(t, s, opened(5))
}

func TestBytesThatComeOutAreFresh(t *testing.T) {
	c, _ := New(true, 3)
	c.In(frame(api.Settings, 0, 0, 3))
	wantOpen(t, c, long(65), 1, api.OK)
	wantOpen(t, c, get(), 3, api.OK)
	packed, _ := Pack(long(65))
	headers := append(frame(api.Open, 0, 1, packed[:64]...), frame(api.More, api.Whole, 1, packed[64])...)
	for _, want := range [][]byte{frame(api.Settings, 0, 0, 3), frame(api.Settings, api.Ack, 0), headers, openFrame(3)} {
		b := c.Out(len(want))
		if !bytes.Equal(b, want) {
			t.Errorf("P2: Out = %v, want %v", b, want)
		}
		spoil(b)
	}
}

func TestWriteKeepsAndWritesNothing(t *testing.T) {
	for _, size := range []int{3, 90, api.MaxBuffer, api.MaxBuffer + 9} {
		c := sender(t, 1)
		c.In(windowFrames(1, 300))
		all := append(bytesFrom(7, size), "behind"...)
		handed := slices.Clone(all)
		takes := min(size, api.MaxBuffer)
		wantWrite(t, c, 1, handed[:2], 2, api.OK)
		wantWrite(t, c, 1, handed[2:size], takes-2, api.OK)
		if !bytes.Equal(handed, all) {
			t.Errorf("P2: Write left %v", handed)
		}
		spoil(handed)
		for piece := range slices.Chunk(all[:takes], api.MaxFrame) {
			b := c.Out(api.Header + len(piece))
			if !bytes.Equal(b, dataFrame(1, 0, piece)) {
				t.Errorf("P2: Out = %v, want %v", b, piece)
			}
			spoil(b)
		}
		wantOut(t, c, far)
	}
}

// Bytes that were written while others had gone out already must not stand where the caller can write.
func TestDataThatComesOutIsFresh(t *testing.T) {
	c := sender(t, 1)
	for i := range 90 {
		wantWrite(t, c, 1, bytesFrom(2*i, 2), 2, api.OK)
		b := c.Out(7)
		if !bytes.Equal(b, dataFrame(1, 0, bytesFrom(i, 1))) {
			t.Errorf("P2: Out = %v", b)
		}
		spoil(b)
	}
}

func TestInKeepsNoData(t *testing.T) {
	all := slices.Concat(openFrame(1), dataFrame(1, 0, bytesFrom(0, 20)), dataFrame(1, 0, bytesFrom(20, 5)), windowFrames(1, 7), dataFrame(1, api.End, bytesFrom(25, 9)))
	for cut := range len(all) {
		s := newEnd(t, false, 1)
		for _, piece := range [][]byte{all[:cut], all[cut:]} {
			inAndSpoil(t, s, piece)
		}
		wantRead(t, s, 1, 22, bytesFrom(0, 22))
		wantRead(t, s, 1, 99, bytesFrom(22, 12))
	}
}

// What is read, with its spare room, is neither what is read later, nor what comes later.
func TestBytesThatAreReadAreFresh(t *testing.T) {
	s := newEnd(t, false, 1)
	s.In(openFrame(1))
	var got [][]byte
	next := 0
	for i := range 40 {
		s.In(dataFrame(1, 0, bytesFrom(3*i, 3)))
		b, _ := s.Read(1, 1+i%4)
		if !bytes.Equal(b, bytesFrom(next, len(b))) {
			t.Errorf("P2: Read = %v, want them from %d on", b, next)
		}
		next += len(b)
		if i%2 == 0 {
			spoil(b)
		} else {
			got = append(got, b, slices.Clone(b))
		}
	}
	for i := 0; i < len(got); i += 2 {
		if !bytes.Equal(got[i], got[i+1]) {
			t.Errorf("P2: what was read became %v, was %v", got[i], got[i+1])
		}
	}
}

// An end knows of another one only what was carried to it.
func TestEndsDoNotChangeOneAnother(t *testing.T) {
	first, second := newEnd(t, false, 1), newEnd(t, false, 1)
	first.In(frame(api.Settings, 0, 0, 0))
	first.In(openFrame(1))
	wantOpen(t, second, get(), 2, api.OK)
	wantNoStream(t, second, 1)
	wantEvents(t, second)
	first.In(openFrame(1))
	second.In(openFrame(1))
	wantEvents(t, second, opened(1))
	wantOut(t, second, far, openFrame(2))
	wantOut(t, first, far, frame(api.Settings, api.Ack, 0), awayFrame(1, api.Protocol))
}
