package mission

import (
	"farhail/api"
	"farhail/convol"
	"farhail/solomon"
	"farhail/stream"
)

const (
	byteBits = 8
	markBits = 32
)

// wayBytes: in how many bytes the symbols of a frame go.
func (c *course) wayBytes() int { return (c.symbols + byteBits - 1) / byteBits }

// wayBits: how many bits a frame on its way has, with its mark.
func (c *course) wayBits() int { return markBits + byteBits*c.wayBytes() }

// sendDown: the bits of a frame on its way.
func (c *course) sendDown(frame []byte) []byte {
	block, _ := solomon.Weave(frame, c.Depth, c.Checks)
	symbols, _ := convol.Spread(stream.Bits(block), c.Rate)
	whole := make([]byte, byteBits*c.wayBytes())
	copy(whole, symbols)
	data, _ := stream.Bytes(whole)
	bits, _ := stream.Frame(data)
	return bits
}

// search bits for frames on their way: the bytes of each, and the bits that may belong to the next one.
func (c *course) search(bits []byte) (found [][]byte, left []byte) {
	s, _ := stream.New(api.Rule{Length: c.wayBytes(), Find: c.Find})
	behind := 0
	for f := range s.Take(bits) {
		found = append(found, f.Data)
		behind = f.At + c.wayBits()
	}
	return found, bits[max(behind, len(bits)-c.wayBits()+1):]
}

// gather the frame of what came on its way.
func (c *course) gather(data []byte) ([]byte, api.Errno) {
	soft := make([]int, c.symbols)
	for i, b := range stream.Bits(data)[:c.symbols] {
		soft[i] = api.MaxSoft * (2*int(b) - 1)
	}
	bits, _, e := convol.Gather(soft, byteBits*c.block, c.Rate)
	if e != api.OK {
		return nil, e
	}
	block, e := stream.Bytes(bits)
	if e != api.OK {
		return nil, e
	}
	frame, _, e := solomon.Unweave(block, c.Depth, c.Checks, nil)
	return frame, e
}
