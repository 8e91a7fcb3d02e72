package ferry

import (
	"bytes"
	"math"
	"slices"
	"strings"
	"testing"

	"ferry/api"
)

const far = math.MaxInt

// newEnd is an end whose own Settings have gone out.
func newEnd(t *testing.T, client bool, streams int) *Conn {
	t.Helper()
	c, e := New(client, streams)
	if c == nil || e != api.OK {
		t.Fatalf("P5: New(%v, %d) = %v, %d", client, streams, c, e)
	}
	wantOut(t, c, far, frame(api.Settings, 0, 0, byte(streams)))
	return c
}

func frame(kind, flags, id int, body ...byte) []byte {
	return append([]byte{0, byte(len(body)), byte(kind), byte(flags), byte(id >> 8), byte(id)}, body...)
}

// openFrame is one of a stream with the header :method GET.
func openFrame(id int) []byte { return frame(api.Open, api.Whole, id, 129) }

func awayFrame(last, code int) []byte {
	return frame(api.Away, 0, 0, byte(last>>8), byte(last), byte(code))
}

func wantOut(t *testing.T, c *Conn, room int, frames ...[]byte) {
	t.Helper()
	if b, want := c.Out(room), slices.Concat(frames...); !bytes.Equal(b, want) {
		t.Errorf("P12: Out(%d) = %v, want %v", room, b, want)
	}
}

func wantEvents(t *testing.T, c *Conn, want ...api.Event) {
	t.Helper()
	if l := c.Events(); !slices.Equal(l, want) {
		t.Errorf("P13: Events = %v, want %v", l, want)
	}
}

func opened(id int) api.Event   { return api.Event{Kind: api.Opened, Stream: id} }
func ended(id int) api.Event    { return api.Event{Kind: api.Ended, Stream: id} }
func failed(code int) api.Event { return api.Event{Kind: api.Failed, Code: code} }

func broke(id, code int) api.Event {
	return api.Event{Kind: api.Broken, Stream: id, Code: code}
}

func wantOpen(t *testing.T, c *Conn, headers []api.Pair, id int, want api.Errno) {
	t.Helper()
	if n, e := c.Open(headers); n != id || e != want {
		t.Errorf("P6: Open(%.99q) = %d, %d, want %d, %d", headers, n, e, id, want)
	}
}

func wantHeaders(t *testing.T, c *Conn, id int, want []api.Pair) {
	t.Helper()
	if l, e := c.Headers(id); !slices.Equal(l, want) || e != api.OK {
		t.Errorf("P7: Headers(%d) = %q, %d, want %q", id, l, e, want)
	}
}

func wantNoStream(t *testing.T, c *Conn, ids ...int) {
	t.Helper()
	for _, id := range ids {
		if l, e := c.Headers(id); len(l) > 0 || e != api.ErrStream {
			t.Errorf("P7: Headers(%d) = %q, %d, want ErrStream", id, l, e)
		}
	}
}

// wantFailure: the connection has failed by now, with no event ahead, and all that is left to go out is why.
func wantFailure(t *testing.T, c *Conn, last, code int) {
	t.Helper()
	wantEvents(t, c, failed(code))
	wantOut(t, c, far, awayFrame(last, code))
	wantOver(t, c)
}

// wantOver: nothing happens any more.
func wantOver(t *testing.T, c *Conn) {
	t.Helper()
	for _, b := range [][]byte{frame(api.Settings, 0, 0, 6), openFrame(501), openFrame(502), dataFrame(1, api.End, []byte("x")), dataFrame(2, api.End, nil), windowFrames(1, 1000), resetFrame(1, 9), resetFrame(2, 9), pingFrame(0, 7), pingFrame(api.Ack, 7), awayFrame(7, 9), {0, 65, 0, 0, 0, 0}} {
		c.In(b)
	}
	wantOpen(t, c, get(), 0, api.ErrGone)
	wantPing(t, c, 0, api.ErrGone)
	wantAway(t, c, api.ErrGone)
	wantReset(t, c, api.ErrStream, -1, 0, far)
	wantEvents(t, c)
	wantOut(t, c, far)
	wantNoStream(t, c, 501, 502)
}

func get() []api.Pair { return one(":method", "GET") }

// long is headers that have so many bytes when they are packed, 64 to 66.
func long(size int) []api.Pair {
	if size == 66 {
		return append(long(65), get()...)
	}
	return one("x", strings.Repeat("v", size-5))
}

// longest is headers with as many bytes as Pack may make.
func longest() []api.Pair {
	var l []api.Pair
	for i := range api.MaxHeaders {
		l = append(l, api.Pair{Name: strings.Repeat("n", api.MaxName-1) + string(rune('a'+i)), Value: strings.Repeat("v", api.MaxValue)})
	}
	return l
}

func TestNew(t *testing.T) {
	for _, client := range []bool{true, false} {
		for _, streams := range []int{math.MinInt, -256, -1, api.MaxStreams + 1, 255, 256, 257, far} {
			if c, e := New(client, streams); c != nil || e != api.ErrConf {
				t.Errorf("P5: New(%v, %d) = %v, %d, want ErrConf", client, streams, c, e)
			}
		}
		for streams := range api.MaxStreams + 1 {
			c, e := New(client, streams)
			if c == nil || e != api.OK {
				t.Fatalf("P5: New(%v, %d) = %v, %d", client, streams, c, e)
			}
			wantEvents(t, c)
			wantOut(t, c, far, []byte{0, 1, 4, 0, 0, 0, byte(streams)})
			wantOut(t, c, far)
		}
	}
}

func TestExamplesOfOpening(t *testing.T) {
	c, _ := New(true, 2)
	wantOut(t, c, 99, []byte{0, 1, 4, 0, 0, 0, 2})
	wantOpen(t, c, get(), 1, api.OK)
	wantOut(t, c, 99, []byte{0, 1, 1, 2, 0, 1, 129})
	wantOpen(t, c, get(), 0, api.ErrMany)
	s, _ := New(false, 4)
	s.In([]byte{0, 1, 4, 0, 0, 0, 2, 0, 1, 1, 2, 0, 1, 129})
	wantEvents(t, s, opened(1))
	wantOut(t, s, 99, []byte{0, 1, 4, 0, 0, 0, 4}, []byte{0, 0, 4, 1, 0, 0})
	f, _ := New(true, 0)
	f.In([]byte{0, 65, 0, 0, 0, 1})
	wantEvents(t, f, failed(api.Size))
	wantOut(t, f, 99, []byte{0, 1, 4, 0, 0, 0, 0}, []byte{0, 3, 6, 0, 0, 0, 0, 0, 3})
}
