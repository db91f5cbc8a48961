package stream

import (
	"iter"
	"math/bits"
)

const byteBits = 8

// The row by which bytes are scrambled, eight bits of it at a time: the newest one is the lowest, so that the bits by which the next one is told (1, 3, 5 and 8 back) stand at the places 0, 2, 4 and 7.
const (
	firstOfRow byte = 0xFF
	rowTells   byte = 1<<0 | 1<<2 | 1<<4 | 1<<7
)

// nextOfRow: the eight bits of the row behind these eight.
func nextOfRow(row byte) byte {
	for range byteBits {
		row = row<<1 | byte(bits.OnesCount8(row&rowTells)&1)
	}
	return row
}

// appendBits: the bits of bytes behind a list.
func appendBits(list, b []byte) []byte {
	for _, x := range b {
		for place := byteBits - 1; place >= 0; place-- {
			list = append(list, x>>place&1)
		}
	}
	return list
}

// joined: the byte of eight bits; false: one of them is none.
func joined(eight []byte) (byte, bool) {
	x := byte(0)
	for _, b := range eight {
		if b > 1 {
			return 0, false
		}
		x = x<<1 | b
	}
	return x, true
}

// pieces of a list, of so many elements each, which must be a part of its length.
func pieces(list []byte, size int) iter.Seq[[]byte] {
	return func(yield func([]byte) bool) {
		for at := 0; at < len(list); at += size {
			if !yield(list[at : at+size]) {
				return
			}
		}
	}
}
