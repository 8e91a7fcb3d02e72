// Package ferry: many streams over one pair of pipes: see DOC.md.
package ferry

import (
	"ferry/api"
	"ferry/packing"
)

// Pack packs headers (P3).
func Pack(headers []api.Pair) ([]byte, api.Errno) { return packing.Pack(headers) }

// Unpack tells the headers that are packed (P4).
func Unpack(b []byte) ([]api.Pair, api.Errno) { return packing.Unpack(b) }
