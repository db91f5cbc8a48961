package memory

import (
	"math/bits"

	"farhail/api"
)

const (
	mostWord = 1<<32 - 1
	mostCode = 1<<api.WordBits - 1

	// The place whose bit makes the number of all ones even.
	evenPlace = 0
)

// within: is it from 0 to most?
func within(n, most int) bool { return n >= 0 && n <= most }

// ofWord: has a place a bit of the word, and none that checks others?
func ofWord(place int) bool { return place&(place-1) != 0 }

// spread a word's bits over their places; the others have noughts.
func spread(n int) int {
	c := 0
	for place := range api.WordBits {
		if ofWord(place) {
			c |= (n & 1) << place
			n >>= 1
		}
	}
	return c
}

// gathered: the word whose bits stand at their places.
func gathered(c int) int {
	n, bit := 0, 0
	for place := range api.WordBits {
		if ofWord(place) {
			n |= (c >> place & 1) << bit
			bit++
		}
	}
	return n
}

// placeSum (exclusive or) of the numbers of all places that have a 1.
func placeSum(c int) int {
	sum := 0
	for place := range api.WordBits {
		if c>>place&1 == 1 {
			sum ^= place
		}
	}
	return sum
}

// odd: is the number of all ones?
func odd(c int) bool { return bits.OnesCount64(uint64(c))%2 == 1 }

// checked: with the bits that check others, of which none has a 1 yet.
func checked(c int) int {
	// The bit at a power of two adds just that power to the sum, so those in the sum bring it to 0.
	sum := placeSum(c)
	for power := 1; power < api.WordBits; power *= 2 {
		if sum&power != 0 {
			c |= 1 << power
		}
	}
	if odd(c) {
		c |= 1 << evenPlace
	}
	return c
}

// righted: a code without its wrong bit; whether there was one; ErrWord: there were more.
func righted(c int) (int, bool, api.Errno) {
	sum := placeSum(c)
	switch {
	case !odd(c) && sum == 0:
		return c, false, api.OK
	case odd(c) && sum < api.WordBits:
		// Where all checks hold, the sum is 0: so is the place of the bit that none of them looks at.
		return c ^ 1<<sum, true, api.OK
	}
	return 0, false, api.ErrWord
}
