// Package wire turns frames into bytes, and bytes into frames.
package wire

import "ferry/api"

// Frame is a frame as it goes over a pipe.
type Frame struct {
	Kind, Flags, Stream int
	Body                []byte
}

// Has tells whether the frame has a flag.
func (f Frame) Has(flag int) bool { return f.Flags&flag != 0 }

// Size is how many bytes the frame has, with its head.
func (f Frame) Size() int { return api.Header + len(f.Body) }

// Append lays the frame's bytes behind b.
func (f Frame) Append(b []byte) []byte {
	b = appendTwo(b, len(f.Body))
	b = append(b, byte(f.Kind), byte(f.Flags))
	b = appendTwo(b, f.Stream)
	return append(b, f.Body...)
}

func appendTwo(b []byte, n int) []byte { return append(b, byte(n>>8), byte(n)) }

// Two is the number in the first two bytes of b.
func Two(b []byte) int { return int(b[0])<<8 | int(b[1]) }

// Arrival is how much of a frame has come.
type Arrival int

const (
	Partly  Arrival = iota // not all of its bytes are there
	Wholly                 // it is all there
	TooLong                // its head tells of a body above MaxFrame bytes
)

// Cut takes the first frame from b, if it has come wholly. Its body is a piece of b.
func Cut(b []byte) (f Frame, rest []byte, came Arrival) {
	if len(b) < api.Header {
		return Frame{}, nil, Partly
	}
	behind := api.Header + Two(b)
	switch {
	case behind > api.Header+api.MaxFrame:
		return Frame{}, nil, TooLong
	case behind > len(b):
		return Frame{}, nil, Partly
	}
	f = Frame{Kind: int(b[2]), Flags: int(b[3]), Stream: Two(b[4:]), Body: b[api.Header:behind]}
	return f, b[behind:], Wholly
}
