package keys

import (
	"iter"
	"math/bits"
)

const (
	prime      = 1<<61 - 1
	tagBytes   = 8
	groupBytes = 7
)

// chunks of a list; the last one may be shorter.
func chunks(list []byte, size int) iter.Seq[[]byte] {
	return func(yield func([]byte) bool) {
		for at := 0; at < len(list); at += size {
			if !yield(list[at:min(at+size, len(list))]) {
				return
			}
		}
	}
}

// number of some bytes, the highest first.
func number(list []byte) uint64 {
	n := uint64(0)
	for _, b := range list {
		n = n<<8 | uint64(b)
	}
	return n
}

// put a number behind a list, as so many bytes, the highest first.
func put(list []byte, n uint64, size int) []byte {
	for i := range size {
		list = append(list, byte(n>>((size-1-i)*8)))
	}
	return list
}

// tagOf bytes, by words and a counter that may be.
func tagOf(words []int, counter int, list []byte) []byte {
	block := blockOf(words, counter, 0)
	r, s := number(block[:8])%prime, number(block[8:16])%prime
	sum := uint64(0)
	for group := range chunks(list, groupBytes) {
		// A one ahead of the bytes, so that noughts at a group's beginning count.
		sum = times(sum+number(group)+1<<(8*len(group)), r)
	}
	return put(nil, (sum+s)%prime, tagBytes)
}

// times: a product, modulo the prime; it may have more than 64 bits.
func times(a, b uint64) uint64 {
	high, low := bits.Mul64(a, b)
	return bits.Rem64(high, low, prime)
}
