package packing

import "ferry/api"

// Unpack tells the headers that are packed in b, in whatever way (P4).
func Unpack(b []byte) ([]api.Pair, api.Errno) {
	if len(b) < 1 || len(b) > api.MaxBlock {
		return nil, api.ErrPack
	}
	table := api.Table()
	var headers []api.Pair
	for len(b) > 0 {
		p, rest, ok := cutHeader(b, table)
		if !ok || len(headers) == api.MaxHeaders {
			return nil, api.ErrPack
		}
		headers = append(headers, p)
		b = rest
	}
	return headers, api.OK
}

// cutHeader takes a header from the front of b, of which there is at least a byte.
func cutHeader(b []byte, table []api.Pair) (p api.Pair, rest []byte, ok bool) {
	switch {
	case b[0]>>entryBits == wholeEntry>>entryBits:
		p, rest, ok = cutEntry(b, table)
		ok = ok && p.Value != ""
	case b[0]>>entryBits == nameEntry>>entryBits:
		p, rest, ok = cutEntry(b, table)
		if ok {
			p.Value, rest, ok = cutText(rest)
		}
	case b[0] == noEntry:
		p.Name, rest, ok = cutText(b[1:])
		if ok {
			p.Value, rest, ok = cutText(rest)
		}
	}
	if !ok || !isHeader(p) {
		return api.Pair{}, nil, false
	}
	return p, rest, true
}

// cutEntry takes the number of an entry from the front of b, and tells that entry.
func cutEntry(b []byte, table []api.Pair) (known api.Pair, rest []byte, ok bool) {
	entry, rest, ok := cutNumber(b, entryBits)
	if !ok || entry < 1 || entry > len(table) {
		return api.Pair{}, nil, false
	}
	return table[entry-1], rest, true
}
