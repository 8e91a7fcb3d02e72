package ferry

import (
	"testing"

	"ferry/api"
)

func TestSettingsOfEveryNumber(t *testing.T) {
	for streams := range 256 {
		c := newEnd(t, true, 0)
		c.In(frame(api.Settings, 0, 0, byte(streams)))
		if streams > api.MaxStreams {
			wantFailure(t, c, 0, api.Protocol)
			continue
		}
		wantEvents(t, c)
		wantOut(t, c, far, []byte{0, 0, 4, 1, 0, 0})
		for i := range streams {
			wantOpen(t, c, get(), 2*i+1, api.OK)
		}
		wantOpen(t, c, get(), 0, api.ErrMany)
	}
}

func TestSettingsThatMayNotBe(t *testing.T) {
	for _, c := range []struct {
		flags, stream int
		body          []byte
		code          int
	}{
		{0, 1, []byte{2}, api.Protocol},
		{0, 2, []byte{2}, api.Protocol},
		{0, 256, []byte{2}, api.Protocol},
		{0, 65535, []byte{2}, api.Protocol},
		{0, 1, nil, api.Protocol},
		{0, 1, []byte{7, 7}, api.Protocol},
		{api.Ack, 1, nil, api.Protocol},
		{api.Ack, 256, nil, api.Protocol},
		{api.Ack, 1, []byte{2}, api.Protocol},
		{api.Ack, 0, []byte{2}, api.Size},
		{255, 0, []byte{2}, api.Size},
		{api.Ack, 0, []byte{7}, api.Size},
		{api.Ack, 0, make([]byte, api.MaxFrame), api.Size},
		{0, 0, nil, api.Size},
		{0, 0, []byte{2, 2}, api.Size},
		{0, 0, []byte{7, 7}, api.Size},
		{254, 0, []byte{0, 0}, api.Size},
		{0, 0, make([]byte, api.MaxFrame), api.Size},
		{0, 0, []byte{api.MaxStreams + 1}, api.Protocol},
		{254, 0, []byte{255}, api.Protocol},
	} {
		s := newEnd(t, false, 1)
		s.In(frame(api.Settings, c.flags, c.stream, c.body...))
		wantFailure(t, s, 0, c.code)
	}
}

func TestSettingsFlags(t *testing.T) {
	for flags := range 256 {
		s := newEnd(t, false, 1)
		if flags&api.Ack != 0 {
			s.In(frame(api.Settings, flags, 0))
			wantOut(t, s, far)
			wantOpen(t, s, get(), 2, api.OK)
			wantOpen(t, s, get(), 0, api.ErrMany)
		} else {
			s.In(frame(api.Settings, flags, 0, 0))
			wantOut(t, s, far, frame(api.Settings, api.Ack, 0))
			wantOpen(t, s, get(), 0, api.ErrMany)
		}
		wantEvents(t, s)
	}
}

// Each Settings frame has an Ack of its own.
func TestSettingsThatComeOften(t *testing.T) {
	c := newEnd(t, true, 0)
	var want [][]byte
	for i := range 50 {
		c.In(frame(api.Settings, 0, 0, byte(i%7)))
		want = append(want, frame(api.Settings, api.Ack, 0))
	}
	wantOut(t, c, far, want...)
	wantOut(t, c, far)
}
