package ferry

import (
	"slices"
	"testing"

	"ferry/api"
)

// carry brings what goes out of one end to the other, by pieces of that size, till nothing goes out.
func carry(from, to *Conn, size int) {
	for b := from.Out(far); len(b) > 0; b = from.Out(far) {
		for piece := range slices.Chunk(b, size) {
			to.In(piece)
		}
	}
}

// Whatever the pieces are, streams that are opened behind the peer's Settings come through, and no connection fails.
func TestTwoEnds(t *testing.T) {
	lists := [][]api.Pair{get(), long(64), long(65), longest(), append(get(), longest()[1:]...), one("x", "")}
	for size := 1; size < 200; size++ {
		client, _ := New(true, size%7)
		server, _ := New(false, (size+3)%7)
		for range 2 {
			carry(client, server, size)
			carry(server, client, size)
		}
		for _, ends := range [][2]*Conn{{client, server}, {server, client}} {
			from, to := ends[0], ends[1]
			var want []api.Event
			for i := range to.theirs.most {
				wantOpen(t, from, lists[i], from.mine.first+2*i, api.OK)
				want = append(want, opened(from.mine.first+2*i))
			}
			wantOpen(t, from, get(), 0, api.ErrMany)
			carry(from, to, size)
			wantEvents(t, to, want...)
			for i := range to.theirs.most {
				wantHeaders(t, to, to.theirs.first+2*i, lists[i])
				wantNoStream(t, from, to.theirs.first+2*i)
			}
		}
		wantEvents(t, client)
		wantOut(t, client, far)
		wantOut(t, server, far)
	}
}

// noise is bytes that follow from a number alone, so that a test that fails does so again.
func noise(seed uint32, length int) []byte {
	b := make([]byte, length)
	for i := range b {
		seed = seed*1664525 + 1013904223
		b[i] = byte(seed >> 24)
	}
	return b
}

// noisyFrames is frames with numbers that are likely to mean something.
func noisyFrames(seed uint32) []byte {
	var all []byte
	for n := noise(seed, 400); len(n) > 8; n = n[4:] {
		kind := []int{api.Open, api.Open, api.More, api.Settings, api.Data, api.Data, api.Window, api.Reset, api.Reset, api.Ping, api.Away, int(n[0])}[n[1]%12]
		body := [][]byte{{129}, {131, 129}, nil, {n[0] % 8}, n[:n[0]%8], {0, 1 + n[0]}, {0, n[0], n[1]}}[n[2]%7]
		id := int(n[0] / 8)
		if n[2]%2 == 0 && (kind == api.Settings || kind == api.Ping || kind == api.Away) {
			id = 0
		}
		all = append(all, frame(kind, int(n[3]), id, body...)...)
	}
	return all
}

// wantSound: what an end keeps of its streams in several places is the same in all of them, and no window is lost.
func wantSound(t *testing.T, c *Conn) {
	t.Helper()
	unread, waiting := 0, 0
	for _, o := range []*opener{&c.mine, &c.theirs} {
		counting := 0
		for _, s := range o.streams {
			unread += len(s.unread)
			if s.state.counts() {
				counting++
			}
			if !c.failed && s.waits() {
				waiting++
			}
			if s.waits() != slices.Contains(c.ring, s) && !c.failed {
				t.Fatalf("P12: the stream %d waits: %v", s.id, s.waits())
			}
		}
		if counting != o.counting {
			t.Fatalf("P6: %d streams count, want %d", o.counting, counting)
		}
	}
	if len(c.ring) != waiting {
		t.Fatalf("P12: %d streams are in the ring, of which %d wait", len(c.ring), waiting)
	}
	if !c.failed && c.window.to+unread != api.ConnWindow {
		t.Fatalf("P15: the window takes %d, where %d are unread", c.window.to, unread)
	}
}

// No bytes do anything but what is said: at most one failure, which is the last event, and nothing but an Away frame behind it.
func TestInOfNoise(t *testing.T) {
	for seed := range uint32(3000) {
		c := newEnd(t, seed%2 == 0, int(seed%7))
		b := noise(seed, 300)
		if seed%3 > 0 {
			b = noisyFrames(seed)
		}
		for piece := range slices.Chunk(b, 1+int(seed%50)) {
			c.In(piece)
			c.Open(get())
			c.Headers(int(seed % 10))
			for id := range 10 {
				c.Write(id, piece)
				c.Read(id, len(piece)-5)
			}
			c.End(int(seed % 8))
			c.Reset(int(seed+uint32(len(c.in))) % 9)
			c.Ping()
			if seed%5 == 0 {
				c.Away()
			}
			wantSound(t, c)
			c.Out(int(seed % 30))
			wantSound(t, c)
		}
		for i, e := range c.events {
			if e.Kind == api.Failed && i < len(c.events)-1 {
				t.Fatalf("P14: noise %d: events %v", seed, c.events)
			}
		}
		if c.failed {
			c.Events()
			c.Out(far)
			wantOver(t, c)
		}
	}
}
