package wire

import (
	"bytes"
	"testing"

	"ferry/api"
)

func TestFrameBytes(t *testing.T) {
	for _, c := range []struct {
		f    Frame
		want []byte
	}{
		{Frame{}, []byte{0, 0, 0, 0, 0, 0}},
		{Frame{Kind: api.Settings, Flags: api.Ack}, []byte{0, 0, 4, 1, 0, 0}},
		{Frame{Kind: api.Open, Flags: api.Whole, Stream: 1, Body: []byte{129}}, []byte{0, 1, 1, 2, 0, 1, 129}},
		{Frame{Kind: api.Reset, Stream: 65534, Body: []byte{6}}, []byte{0, 1, 3, 0, 255, 254, 6}},
		{Frame{Kind: api.More, Flags: 3, Stream: 258, Body: []byte{7, 8}}, []byte{0, 2, 2, 3, 1, 2, 7, 8}},
	} {
		if b := c.f.Append([]byte{9}); !bytes.Equal(b[1:], c.want) || b[0] != 9 || c.f.Size() != len(c.want) {
			t.Errorf("P12: %v = %v of %d bytes, want %v", c.f, b[1:], c.f.Size(), c.want)
		}
	}
}

func TestCutOfWholeFrames(t *testing.T) {
	for length := range api.MaxFrame + 1 {
		f := Frame{Kind: 200, Flags: 255, Stream: 65535, Body: bytes.Repeat([]byte{byte(length)}, length)}
		b := f.Append(nil)
		got, rest, came := Cut(append(b, 1, 2, 3))
		if got.Kind != 200 || got.Flags != 255 || got.Stream != 65535 || !bytes.Equal(got.Body, f.Body) || !bytes.Equal(rest, []byte{1, 2, 3}) || came != Wholly {
			t.Errorf("P13: a frame with %d bytes came as %v, %v, %v", length, got, rest, came)
		}
		for part := range len(b) {
			if got, rest, came := Cut(b[:part]); got.Body != nil || rest != nil || came != Partly {
				t.Errorf("P13: %d of %d bytes came as %v, %v, %v", part, len(b), got, rest, came)
			}
		}
	}
}

func TestCutOfWhatIsTooLong(t *testing.T) {
	for _, length := range []int{api.MaxFrame + 1, 255, 256, 256 + api.MaxFrame, 65535} {
		head := []byte{byte(length >> 8), byte(length), 1, 0, 0, 1}
		if _, _, came := Cut(head[:api.Header-1]); came != Partly {
			t.Errorf("P13: a head of five bytes that begins with %d came as %v", length, came)
		}
		for _, b := range [][]byte{head, append(head, 7), append(head, make([]byte, 65535)...)} {
			if f, rest, came := Cut(b); f.Body != nil || rest != nil || came != TooLong {
				t.Errorf("P13: a head that tells of %d bytes came as %v, %v, %v", length, f, rest, came)
			}
		}
	}
}

func TestFlags(t *testing.T) {
	for flags := range 256 {
		f := Frame{Flags: flags}
		if f.Has(api.End) != (flags%2 == 1) || f.Has(api.Whole) != (flags/2%2 == 1) {
			t.Errorf("P14: flags %d have End: %v, Whole: %v", flags, f.Has(api.End), f.Has(api.Whole))
		}
	}
}
