package convol

import "farhail/api"

// costs: of each state what is still to be paid from it on to the end, at least.
type costs [states]int

// price: what a symbol costs if it is 0, and if it is 1. One that is left out costs nothing, whatever it is.
type price [2]int

// priced: what a symbol costs of which soft came.
func priced(soft int) price {
	return price{api.MaxSoft + soft, api.MaxSoft - soft}
}

// pricer: a closure that tells what a step costs, by its register.
func pricer(soft []int, steps int, keep pattern) func(step, register int) int {
	prices := make([][2]price, steps)
	for step := range prices {
		first, second := keep.at(step)
		if first {
			prices[step][0], soft = priced(soft[0]), soft[1:]
		}
		if second {
			prices[step][1], soft = priced(soft[0]), soft[1:]
		}
	}
	return func(step, register int) int {
		first, second := symbols(register)
		return prices[step][0][first] + prices[step][1][second]
	}
}

// gather: the n bits of the least cost, and that cost. It is worked out from the end on: so where the first bits are chosen it is known what each choice leads to, and of equal ones the 0 can be taken.
func gather(n int, cost func(step, register int) int) ([]byte, int) {
	var ahead costs
	for step := n + tail - 1; step >= n; step-- {
		ahead = ahead.ofNoughts(step, cost)
	}
	ones := make([]uint64, n)
	for step := n - 1; step >= 0; step-- {
		ahead, ones[step] = ahead.ofBits(step, cost)
	}
	return follow(ones), ahead[0]
}

// ofNoughts: the costs one step earlier, if its bit can be nothing but 0.
func (c costs) ofNoughts(step int, cost func(step, register int) int) costs {
	var earlier costs
	for state := range earlier {
		register := state << 1
		earlier[state] = cost(step, register) + c[register%states]
	}
	return earlier
}

// ofBits: the costs one step earlier, if its bit can be either; and the states (as bits of a number) in which a 1 is better than a 0.
func (c costs) ofBits(step int, cost func(step, register int) int) (costs, uint64) {
	var earlier costs
	var ones uint64
	for state := range earlier {
		nought, one := state<<1, state<<1|1
		earlier[state] = cost(step, nought) + c[nought%states]
		if paid := cost(step, one) + c[one%states]; paid < earlier[state] {
			earlier[state] = paid
			ones |= 1 << state
		}
	}
	return earlier, ones
}

// follow: the bits that are chosen, step by step, from the first state on.
func follow(ones []uint64) []byte {
	out := make([]byte, len(ones))
	state := 0
	for step, better := range ones {
		bit := better >> state & 1
		out[step] = byte(bit)
		state = (state<<1 | int(bit)) % states
	}
	return out
}
