package keys

import (
	"math/bits"

	"farhail/api"
)

const (
	keyWords   = 8
	maxWord    = 1<<32 - 1
	maxIndex   = 1000
	blockBytes = 64
	rounds     = 6
)

// Where a key's words lie in the square, and what is behind them.
const (
	wordsAt = 4
	indexAt = wordsAt + keyWords
	lowAt   = indexAt + 1
	highAt  = lowAt + 1
)

// lines: which places are stirred together, in their order.
var lines = [8][4]int{
	{0, 4, 8, 12}, {1, 5, 9, 13}, {2, 6, 10, 14}, {3, 7, 11, 15},
	{0, 5, 10, 15}, {1, 6, 11, 12}, {2, 7, 8, 13}, {3, 4, 9, 14},
}

// square is what a block is stirred from.
type square [16]uint32

func within(n, least, most int) bool { return least <= n && n <= most }

// wrongWords: may they be a key's?
func wrongWords(words []int) api.Errno {
	if len(words) != keyWords {
		return api.ErrSize
	}
	for _, w := range words {
		if !within(w, 0, maxWord) {
			return api.ErrRange
		}
	}
	return api.OK
}

func wrongBlock(words []int, counter, index int) api.Errno {
	if e := wrongWords(words); e != api.OK {
		return e
	}
	if !within(counter, 0, api.MaxCounter) || !within(index, 0, maxIndex) {
		return api.ErrRange
	}
	return api.OK
}

// blockOf numbers that may be.
func blockOf(words []int, counter, index int) [blockBytes]byte {
	first := lay(words, counter, index)
	s := first
	for range rounds {
		for _, l := range lines {
			s.stir(l[0], l[1], l[2], l[3])
		}
	}
	s.add(first)
	return s.bytes()
}

// lay a square out.
func lay(words []int, counter, index int) square {
	s := square{0x68726166, 0x2C6C6961, 0x79656B20, 0x64617020}
	for i, w := range words {
		s[wordsAt+i] = uint32(w)
	}
	s[indexAt], s[lowAt], s[highAt] = uint32(index), uint32(counter), uint32(counter>>32)
	return s
}

// stir four numbers.
func (s *square) stir(a, b, c, d int) {
	s.turn(a, b, d, 13)
	s.turn(c, d, b, 9)
	s.turn(a, b, d, 17)
	s.turn(c, d, b, 5)
}

// turn: to is more by by, and then changes last, which is turned left.
func (s *square) turn(to, by, last, places int) {
	s[to] += s[by]
	s[last] = bits.RotateLeft32(s[last]^s[to], places)
}

func (s *square) add(t square) {
	for i, n := range t {
		s[i] += n
	}
}

// bytes: number by number, the lowest byte first.
func (s square) bytes() [blockBytes]byte {
	var out [blockBytes]byte
	for i := range out {
		out[i] = byte(s[i/4] >> (i % 4 * 8))
	}
	return out
}
