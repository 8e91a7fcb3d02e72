package packing

import "ferry/api"

// How many bytes of 7 bits there may be behind a prefix.
const maxTail = 3

// full is the least number that a prefix of so many bits can't hold: all its bits are 1.
func full(bits int) int { return 1<<bits - 1 }

// appendNumber packs n behind b, with a prefix of so many bits in a byte whose other bits are those of high.
func appendNumber(b []byte, high byte, bits int, n int) []byte {
	if n < full(bits) {
		return append(b, high|byte(n))
	}
	b = append(b, high|byte(full(bits)))
	n -= full(bits)
	for n >= 128 {
		b = append(b, 128|byte(n&127))
		n >>= 7
	}
	return append(b, byte(n))
}

// cutNumber takes a number with a prefix of so many bits from the front of b. The other bits of the first byte are its caller's to look at.
func cutNumber(b []byte, bits int) (n int, rest []byte, ok bool) {
	if len(b) == 0 {
		return 0, nil, false
	}
	n = int(b[0]) & full(bits)
	if n < full(bits) {
		return n, b[1:], true
	}
	tail := b[1:]
	for i := 0; i < maxTail && i < len(tail); i++ {
		n += int(tail[i]&127) << (7 * i)
		if tail[i] >= 128 {
			continue
		}
		if n > api.MaxNumber {
			break
		}
		return n, tail[i+1:], true
	}
	return 0, nil, false
}
