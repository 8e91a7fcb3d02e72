// Package packing turns headers into bytes, and bytes into headers.
package packing

import "ferry/api"

// The ways of a header, by the bits of its first byte that are no number's.
const (
	wholeEntry = 0b10000_000
	nameEntry  = 0b01000_000
	noEntry    = 0

	entryBits = 3
)

// Pack packs headers, each in the first way that there is for it (P3).
func Pack(headers []api.Pair) ([]byte, api.Errno) {
	if len(headers) < 1 || len(headers) > api.MaxHeaders {
		return nil, api.ErrHeader
	}
	table := api.Table()
	var b []byte
	for _, p := range headers {
		if !isHeader(p) {
			return nil, api.ErrHeader
		}
		b = appendHeader(b, p, table)
	}
	return b, api.OK
}

func appendHeader(b []byte, p api.Pair, table []api.Pair) []byte {
	if entry := entryOf(p, table); entry > 0 {
		return appendNumber(b, wholeEntry, entryBits, entry)
	}
	if entry := entryNamed(p.Name, table); entry > 0 {
		b = appendNumber(b, nameEntry, entryBits, entry)
		return appendText(b, p.Value)
	}
	b = append(b, noEntry)
	b = appendText(b, p.Name)
	return appendText(b, p.Value)
}

// entryOf is the least entry that stands for the header, or 0. An entry without a value stands for none, not even for one whose value is empty.
func entryOf(p api.Pair, table []api.Pair) int {
	for i, known := range table {
		if known.Value != "" && known == p {
			return i + 1
		}
	}
	return 0
}

// entryNamed is the least entry that stands for the name, or 0.
func entryNamed(name string, table []api.Pair) int {
	for i, known := range table {
		if known.Name == name {
			return i + 1
		}
	}
	return 0
}
