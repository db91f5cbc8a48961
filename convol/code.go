package convol

import (
	"math/bits"

	"farhail/api"
)

// A register is a bit (its lowest one) with those ahead of it, each one place higher than the one behind it; a state is what of a register the next bit still sees.
const (
	tail   = 6
	states = 1 << tail

	ofFirst  = 1<<0 | 1<<1 | 1<<2 | 1<<3 | 1<<6
	ofSecond = 1<<0 | 1<<2 | 1<<3 | 1<<5 | 1<<6
)

// pattern: which symbols of so many bits are kept, those with a 1. The empty one is that of no rate.
type pattern struct {
	first  string
	second string
}

// kept: what a rate keeps.
func kept(rate api.Rate) pattern {
	switch rate {
	case api.Half:
		return pattern{"1", "1"}
	case api.Thirds:
		return pattern{"10", "11"}
	case api.Fourth:
		return pattern{"101", "110"}
	case api.Sixths:
		return pattern{"10101", "11010"}
	case api.Eighth:
		return pattern{"1000101", "1111010"}
	}
	return pattern{}
}

// at: are the first and the second symbol of this step kept?
func (p pattern) at(step int) (bool, bool) {
	i := step % len(p.first)
	return p.first[i] == '1', p.second[i] == '1'
}

// count: how many symbols of so many steps are kept?
func (p pattern) count(steps int) int {
	n := 0
	for step := range steps {
		first, second := p.at(step)
		if first {
			n++
		}
		if second {
			n++
		}
	}
	return n
}

// symbols: both symbols of a register.
func symbols(register int) (byte, byte) {
	first := bits.OnesCount(uint(register & ofFirst))
	second := 1 + bits.OnesCount(uint(register&ofSecond))
	return byte(first & 1), byte(second & 1)
}

// spread: the symbols that are kept of bits and their tail.
func spread(list []byte, keep pattern) []byte {
	steps := len(list) + tail
	out := make([]byte, 0, keep.count(steps))
	state := 0
	for step := range steps {
		register := state << 1
		if step < len(list) {
			register |= int(list[step])
		}
		a, b := symbols(register)
		first, second := keep.at(step)
		if first {
			out = append(out, a)
		}
		if second {
			out = append(out, b)
		}
		state = register % states
	}
	return out
}
