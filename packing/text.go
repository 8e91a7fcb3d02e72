package packing

const textBits = 5

// appendText packs a text behind b.
func appendText(b []byte, text string) []byte {
	b = appendNumber(b, 0, textBits, len(text))
	return append(b, text...)
}

// cutText takes a text from the front of b.
func cutText(b []byte) (text string, rest []byte, ok bool) {
	if len(b) == 0 || int(b[0]) > full(textBits) {
		return "", nil, false
	}
	length, rest, ok := cutNumber(b, textBits)
	if !ok || length > len(rest) {
		return "", nil, false
	}
	return string(rest[:length]), rest[length:], true
}
