// Package ferry: many streams over one pair of pipes: see DOC.md.
package ferry

import (
	"ferry/api"
	"ferry/packing"
)

// Pack packs headers (P3).
func Pack(headers []api.Pair) ([]byte, api.Errno) { return packing.Pack(headers) }

// Unpack tells the headers that are packed (P4).
func Unpack(b []byte) ([]api.Pair, api.Errno) { return packing.Unpack(b) }

// Write takes data that is to be sent on a stream (P8).
func (c *Conn) Write(id int, data []byte) (int, api.Errno) { return 0, api.OK }

// End ends a stream, in one direction (P8).
func (c *Conn) End(id int) api.Errno { return api.OK }

// Read takes data that came on a stream (P9).
func (c *Conn) Read(id int, most int) ([]byte, api.Errno) { return nil, api.OK }

// Reset gives a stream up (P10).
func (c *Conn) Reset(id int) api.Errno { return api.OK }

// Ping sends a ping (P11).
func (c *Conn) Ping() (int, api.Errno) { return 0, api.OK }

// Away takes no new streams any more (P11).
func (c *Conn) Away() api.Errno { return api.OK }
