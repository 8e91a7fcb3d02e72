package ferry

import (
	"math"
	"slices"
	"testing"

	"ferry/api"
)

// sender is a client with that many open streams, 1, 3, 5 .., whose headers have gone out.
func sender(t *testing.T, streams int) *Conn {
	t.Helper()
	c := newEnd(t, true, 3)
	c.In(frame(api.Settings, 0, 0, byte(streams)))
	want := [][]byte{frame(api.Settings, api.Ack, 0)}
	for i := range streams {
		wantOpen(t, c, get(), 2*i+1, api.OK)
		want = append(want, openFrame(2*i+1))
	}
	wantOut(t, c, far, want...)
	return c
}

func TestExampleOfWrite(t *testing.T) {
	c, s := sender(t, 1), newEnd(t, false, 1)
	s.In(openFrame(1))
	data := bytesFrom(0, 300)
	wantWrite(t, c, 1, data, 256, api.OK)
	b := c.Out(999)
	if want := append(dataFrame(1, 0, data[:64]), dataFrame(1, 0, data[64:100])...); !slices.Equal(b, want) {
		t.Errorf("P12: Out(999) = %v, want %v", b, want)
	}
	wantOut(t, c, 999)
	s.In(b)
	wantRead(t, s, 1, 30, data[:30])
	wantOut(t, s, 999, []byte{0, 2, 7, 0, 0, 1, 0, 30}, []byte{0, 2, 7, 0, 0, 0, 0, 30})
}

// A Data frame goes out as soon as there is room for a head and one byte, with as many bytes as there is room for.
func TestDataOfEveryRoom(t *testing.T) {
	for room := range 90 {
		for _, waits := range []int{1, 2, 63, 64, 65, 90} {
			for _, ends := range []bool{false, true} {
				c := sender(t, 1)
				data := bytesFrom(0, waits)
				wantWrite(t, c, 1, data, waits, api.OK)
				flags := 0
				if ends {
					wantEnd(t, c, 1, api.OK)
					flags = api.End
				}
				size := max(0, min(room-api.Header, waits, api.MaxFrame))
				var want []byte
				switch {
				case size == waits:
					want = dataFrame(1, flags, data)
				case size > 0:
					want = dataFrame(1, 0, data[:size])
				}
				if rest := room - api.Header - size; size == api.MaxFrame && size < waits && rest > api.Header {
					behind := min(rest-api.Header, waits-size)
					last := 0
					if size+behind == waits {
						last = flags
					}
					want = append(want, dataFrame(1, last, data[size:size+behind])...)
				}
				wantOut(t, c, room, want)
			}
		}
	}
	c := sender(t, 1)
	wantWrite(t, c, 1, []byte("x"), 1, api.OK)
	for _, room := range []int{math.MinInt, math.MinInt + 6, -1, 0, 5, 6} {
		wantOut(t, c, room)
	}
	wantOut(t, c, 7, dataFrame(1, 0, []byte("x")))
}

// What is left behind a piece goes out from there on.
func TestDataByteForByte(t *testing.T) {
	c := sender(t, 1)
	wantWrite(t, c, 1, bytesFrom(0, 99), 99, api.OK)
	wantEnd(t, c, 1, api.OK)
	for i := range 98 {
		wantOut(t, c, 7, dataFrame(1, 0, bytesFrom(i, 1)))
	}
	wantOut(t, c, 7, dataFrame(1, api.End, bytesFrom(98, 1)))
	wantOut(t, c, far)
}

// narrow is a sender of two streams, whose first has that window, and all together have that one.
func narrow(t *testing.T, stream, all int) *Conn {
	t.Helper()
	c := sender(t, 2)
	used := api.StreamWindow - stream
	wantWrite(t, c, 1, make([]byte, used), used, api.OK)
	c.Out(far)
	used = api.ConnWindow - used - all
	wantWrite(t, c, 3, make([]byte, used), used, api.OK)
	c.Out(far)
	return c
}

func TestDataOfEveryWindow(t *testing.T) {
	for _, w := range []struct{ stream, all int }{{0, 50}, {50, 0}, {1, 50}, {50, 1}, {20, 30}, {30, 20}, {30, 30}, {64, 64}, {100, 63}, {100, 64}, {100, 65}, {63, 100}, {65, 100}, {100, 100}, {0, 0}, {1, 1}} {
		for _, ends := range []bool{false, true} {
			c := narrow(t, w.stream, w.all)
			data := bytesFrom(0, 200)
			wantWrite(t, c, 1, data, 200, api.OK)
			if ends {
				wantEnd(t, c, 1, api.OK)
			}
			var want []byte
			for n := range slices.Chunk(data[:min(w.stream, w.all)], api.MaxFrame) {
				want = append(want, dataFrame(1, 0, n)...)
			}
			wantOut(t, c, far, want)
			wantOut(t, c, far)
		}
	}
}

// The end is with the last bytes, if the windows take just these.
func TestEndWithTheLastBytesOfAWindow(t *testing.T) {
	for _, w := range []struct{ stream, all int }{{10, 50}, {50, 10}, {10, 10}} {
		c := narrow(t, w.stream, w.all)
		wantWrite(t, c, 1, bytesFrom(0, 10), 10, api.OK)
		wantEnd(t, c, 1, api.OK)
		wantOut(t, c, far, dataFrame(1, api.End, bytesFrom(0, 10)))
		wantOut(t, c, far)
	}
}

// An end alone needs no window.
func TestEndAlone(t *testing.T) {
	for _, w := range []struct{ stream, all int }{{100, 100}, {0, 50}, {50, 0}, {0, 0}} {
		c := narrow(t, w.stream, w.all)
		wantEnd(t, c, 1, api.OK)
		for _, room := range []int{math.MinInt, -1, 0, 5} {
			wantOut(t, c, room)
		}
		wantOut(t, c, 6, []byte{0, 0, 0, 1, 0, 1})
		wantOut(t, c, far)
	}
}

// An end that comes behind bytes that wait for a window waits with them.
func TestEndBehindBytesWithoutAWindow(t *testing.T) {
	for _, w := range []struct{ stream, all, gives int }{{0, 50, 1}, {50, 0, 0}} {
		c := narrow(t, w.stream, w.all)
		wantWrite(t, c, 1, []byte("abc"), 3, api.OK)
		wantEnd(t, c, 1, api.OK)
		wantOut(t, c, far)
		c.In(windowFrame(w.gives, 2))
		wantOut(t, c, far, dataFrame(1, 0, []byte("ab")))
		c.In(windowFrame(w.gives, 1))
		wantOut(t, c, far, dataFrame(1, api.End, []byte("c")))
		wantOut(t, c, far)
	}
}

// An End that is called when the bytes have gone out goes alone.
func TestEndBehindBytesThatHaveGone(t *testing.T) {
	c := sender(t, 1)
	wantWrite(t, c, 1, []byte("abc"), 3, api.OK)
	wantOut(t, c, far, dataFrame(1, 0, []byte("abc")))
	wantEnd(t, c, 1, api.OK)
	wantOut(t, c, far, dataFrame(1, api.End, nil))
	wantOut(t, c, far)
}

// Headers go ahead of what was written; a stream whose headers have gone out comes behind the others with the rest.
func TestDataBehindHeaders(t *testing.T) {
	c := newEnd(t, true, 0)
	c.In(frame(api.Settings, 0, 0, 3))
	for id := 1; id < 6; id += 2 {
		wantOpen(t, c, get(), id, api.OK)
	}
	wantWrite(t, c, 3, bytesFrom(0, 70), 70, api.OK)
	wantEnd(t, c, 1, api.OK)
	wantOut(t, c, 6+7+6, frame(api.Settings, api.Ack, 0), openFrame(1))
	wantOut(t, c, 7+6, openFrame(3))
	wantOut(t, c, 6)
	wantOut(t, c, 7+6, openFrame(5), dataFrame(1, api.End, nil))
	wantOut(t, c, far, dataFrame(3, 0, bytesFrom(0, 64)), dataFrame(3, 0, bytesFrom(64, 6)))
	wantOut(t, c, far)
}

// Each stream of the ring has a frame in its turn, in the order in which they came into it.
func TestTurns(t *testing.T) {
	c := sender(t, 4)
	c.In(windowFrame(0, 850))
	for _, id := range []int{5, 1, 7, 3} {
		c.In(windowFrame(id, 900))
		wantWrite(t, c, id, bytesFrom(id, 130), 130, api.OK)
	}
	wantWrite(t, c, 5, bytesFrom(5+130, 126), 126, api.OK)
	wantEnd(t, c, 3, api.OK)
	var want [][]byte
	for first := 0; first < 130; first += 64 {
		for _, id := range []int{5, 1, 7, 3} {
			size, flags := 64, 0
			if id != 5 {
				size = min(64, 130-first)
			}
			if id == 3 && first == 128 {
				flags = api.End
			}
			want = append(want, dataFrame(id, flags, bytesFrom(id+first, size)))
		}
	}
	want = append(want, dataFrame(5, 0, bytesFrom(5+192, 64)))
	wantOut(t, c, far, want...)
	wantOut(t, c, far)
}

// A turn is over whatever little there was room for; who wrote more meanwhile does not come ahead by it.
func TestTurnsOfLittleRoom(t *testing.T) {
	c := sender(t, 2)
	wantWrite(t, c, 3, bytesFrom(0, 30), 30, api.OK)
	wantWrite(t, c, 1, bytesFrom(100, 30), 30, api.OK)
	for i := range 10 {
		wantOut(t, c, 7, dataFrame(3, 0, bytesFrom(i, 1)))
		wantWrite(t, c, 3, bytesFrom(30+i, 1), 1, api.OK)
		wantOut(t, c, 7, dataFrame(1, 0, bytesFrom(100+i, 1)))
	}
	wantOut(t, c, 6+27, dataFrame(3, 0, bytesFrom(10, 27)))
	wantOut(t, c, far, dataFrame(1, 0, bytesFrom(110, 20)), dataFrame(3, 0, bytesFrom(37, 3)))
}

// A stream that can't go is passed, and keeps its place.
func TestTurnsPassAStreamThatCannotGo(t *testing.T) {
	c := narrow(t, 0, 50)
	c.In(windowFrame(0, 900))
	c.In(windowFrame(3, 900))
	wantWrite(t, c, 1, bytesFrom(0, 20), 20, api.OK)
	wantWrite(t, c, 3, bytesFrom(0, 200), 200, api.OK)
	wantOut(t, c, 6+4, dataFrame(3, 0, bytesFrom(0, 4)))
	wantOut(t, c, 6+4, dataFrame(3, 0, bytesFrom(4, 4)))
	c.In(windowFrame(1, 7))
	wantOut(t, c, 6+4, dataFrame(1, 0, bytesFrom(0, 4)))
	wantOut(t, c, 6+4, dataFrame(3, 0, bytesFrom(8, 4)))
	wantOut(t, c, 6+4, dataFrame(1, 0, bytesFrom(4, 3)))
	wantOut(t, c, 6+4, dataFrame(3, 0, bytesFrom(12, 4)))
	wantEnd(t, c, 1, api.OK)
	wantOut(t, c, 6+4, dataFrame(3, 0, bytesFrom(16, 4)))
	c.In(windowFrame(1, 100))
	wantOut(t, c, 6+13+6, dataFrame(1, api.End, bytesFrom(7, 13)))
	wantOut(t, c, far, dataFrame(3, 0, bytesFrom(20, 64)), dataFrame(3, 0, bytesFrom(84, 64)), dataFrame(3, 0, bytesFrom(148, 52)))
}

// Whoever goes ahead of a stream that can't go leaves the others behind it in their order.
func TestTurnsKeepTheOrderOfTheOthers(t *testing.T) {
	c := sender(t, 4)
	wantWrite(t, c, 1, make([]byte, 100), 100, api.OK)
	c.Out(far)
	c.In(windowFrame(0, 500))
	for id := 1; id < 8; id += 2 {
		wantWrite(t, c, id, bytesFrom(id, 9), 9, api.OK)
	}
	wantOut(t, c, 7, dataFrame(3, 0, bytesFrom(3, 1)))
	c.In(windowFrame(1, 1))
	wantOut(t, c, 7, dataFrame(1, 0, bytesFrom(1, 1)))
	wantOut(t, c, 7, dataFrame(5, 0, bytesFrom(5, 1)))
	wantOut(t, c, 7, dataFrame(7, 0, bytesFrom(7, 1)))
	wantOut(t, c, 7, dataFrame(3, 0, bytesFrom(4, 1)))
	c.In(windowFrame(1, 9))
	wantOut(t, c, far, dataFrame(1, 0, bytesFrom(2, 8)), dataFrame(5, 0, bytesFrom(6, 8)), dataFrame(7, 0, bytesFrom(8, 8)), dataFrame(3, 0, bytesFrom(5, 7)))
}

// A peer that ends a stream ahead of its headers keeps nothing back of it.
func TestEndOfAStreamThatThePeerEndedAheadOfItsHeaders(t *testing.T) {
	c := newEnd(t, true, 0)
	wantOpen(t, c, get(), 1, api.OK)
	c.In(dataFrame(1, api.End, nil))
	wantEnd(t, c, 1, api.OK)
	wantOut(t, c, far, openFrame(1), dataFrame(1, api.End, nil))
	wantOpen(t, c, get(), 3, api.OK)
}

// Where the window of all together is 0, headers, resets and ends still go.
func TestTurnsWithoutAWindowOfAllTogether(t *testing.T) {
	c := narrow(t, 50, 0)
	wantWrite(t, c, 1, []byte("x"), 1, api.OK)
	c.In(frame(api.Settings, 0, 0, 3))
	wantOpen(t, c, get(), 5, api.OK)
	wantWrite(t, c, 5, []byte("y"), 1, api.OK)
	for id := 2; id < 10; id += 2 {
		c.In(openFrame(id))
	}
	wantEnd(t, c, 3, api.OK)
	wantEnd(t, c, 2, api.OK)
	wantOut(t, c, far, frame(api.Settings, api.Ack, 0), openFrame(5), frame(api.Reset, 0, 8, api.Refused), dataFrame(3, api.End, nil), dataFrame(2, api.End, nil))
	c.In(windowFrame(0, 9))
	wantOut(t, c, far, dataFrame(1, 0, []byte("x")), dataFrame(5, 0, []byte("y")))
}

// The stream that has the turn keeps all others back, if there is no room for it, even what is smaller.
func TestTurnWithoutRoom(t *testing.T) {
	c := sender(t, 3)
	wantWrite(t, c, 1, []byte("x"), 1, api.OK)
	wantEnd(t, c, 3, api.OK)
	wantOut(t, c, 6)
	wantOut(t, c, 7, dataFrame(1, 0, []byte("x")))
	for id := 2; id < 10; id += 2 {
		c.In(openFrame(id))
	}
	wantOut(t, c, 6, dataFrame(3, api.End, nil))
	wantEnd(t, c, 5, api.OK)
	wantOut(t, c, 6)
	wantOut(t, c, 7+6, frame(api.Reset, 0, 8, api.Refused), dataFrame(5, api.End, nil))
}

// A control frame that has no room keeps even an end back, that would have.
func TestControlFrameWithoutRoomKeepsAnEndBack(t *testing.T) {
	c := sender(t, 1)
	c.In(dataFrame(1, 0, []byte("x")))
	wantRead(t, c, 1, 1, []byte("x"))
	wantEnd(t, c, 1, api.OK)
	wantOut(t, c, 7)
	wantOut(t, c, 15, windowFrame(1, 1))
	wantOut(t, c, 7)
	wantOut(t, c, 14, windowFrame(0, 1), dataFrame(1, api.End, nil))
}

// A stream of which nothing waits any more is out of the ring: what is written later comes behind.
func TestWhoIsDoneLeavesTheRing(t *testing.T) {
	c := sender(t, 2)
	wantWrite(t, c, 1, []byte("a"), 1, api.OK)
	wantWrite(t, c, 3, []byte("bc"), 2, api.OK)
	wantOut(t, c, 7, dataFrame(1, 0, []byte("a")))
	wantWrite(t, c, 1, []byte("d"), 1, api.OK)
	wantOut(t, c, 7, dataFrame(3, 0, []byte("b")))
	wantOut(t, c, far, dataFrame(1, 0, []byte("d")), dataFrame(3, 0, []byte("c")))
	wantEnd(t, c, 3, api.OK)
	wantEnd(t, c, 1, api.OK)
	wantOut(t, c, far, dataFrame(3, api.End, nil), dataFrame(1, api.End, nil))
}
