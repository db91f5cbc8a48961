// Package field: numbers of eight bits that add, multiply and divide.
package field

// overflow is what x^8 amounts to, modulo x^8 + x^7 + x^2 + x + 1.
const overflow = 0x87

// order is how many numbers are not nought: each of them is a power of 2, and behind so many the powers begin again.
const order = 255

// Mul: the product.
func Mul(a, b byte) byte {
	var sum byte
	for i := range 8 {
		sum ^= a & whole(b>>i&1)
		a = double(a)
	}
	return sum
}

// double: the product with 2, which is x.
func double(a byte) byte {
	return a<<1 ^ overflow&whole(a>>7)
}

// whole: a bit in all eight places. (A branch upon it would be guessed wrong half of the time, and all codes stand on this.)
func whole(bit byte) byte {
	return -bit
}

// Div: the quotient; false: b is nought.
func Div(a, b byte) (byte, bool) {
	if b == 0 {
		return 0, false
	}
	return Mul(a, inverse(b)), true
}

// inverse: the number that times a is 1. Since a^255 is 1, it is a^254, and 254 is 2 + 4 + .. + 128: seven squares. (Of 0: 0.)
func inverse(a byte) byte {
	product := byte(1)
	for range 7 {
		a = Mul(a, a)
		product = Mul(product, a)
	}
	return product
}

// Power: 2 by itself, n times.
func Power(n int) byte {
	n %= order
	if n < 0 {
		n += order
	}
	power := byte(1)
	for range n {
		power = double(power)
	}
	return power
}

// Log: of which n Power is a; false: of none.
func Log(a byte) (int, bool) {
	power := byte(1)
	for n := range order {
		if power == a {
			return n, true
		}
		power = double(power)
	}
	return 0, false
}
