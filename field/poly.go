package field

import "farhail/api"

// Sum of two polynomials.
func Sum(p, q []byte) []byte {
	if len(p) < len(q) {
		p, q = q, p
	}
	sum := make([]byte, len(p))
	copy(sum, p)
	for i, c := range q {
		sum[i] ^= c
	}
	return trim(sum)
}

// Times: the product of two polynomials.
func Times(p, q []byte) ([]byte, api.Errno) {
	if tooLong(p, q) {
		return nil, api.ErrSize
	}
	product := make([]byte, len(p)+len(q))
	for i, c := range p {
		addScaled(product[i:], q, c)
	}
	return trim(product), api.OK
}

// Over: quotient and rest of two polynomials.
func Over(p, q []byte) ([]byte, []byte, api.Errno) {
	if tooLong(p, q) {
		return nil, nil, api.ErrSize
	}
	q = trim(q)
	if len(q) == 0 {
		return nil, nil, api.ErrZero
	}
	rest := make([]byte, len(p))
	copy(rest, p)
	steps := max(0, len(p)-len(q)+1)
	quotient := make([]byte, steps)
	top := inverse(q[len(q)-1])
	for i := range steps {
		at := steps - 1 - i
		c := Mul(rest[at+len(q)-1], top)
		quotient[at] = c
		addScaled(rest[at:], q, c) // each number is its own negative: to add is to take away
	}
	return trim(quotient), trim(rest), api.OK
}

// At: a polynomial's value.
func At(p []byte, x byte) byte {
	var value byte
	for i := range len(p) {
		value = Mul(value, x) ^ p[len(p)-1-i]
	}
	return value
}

// Through: the polynomial through points.
func Through(xs, ys []byte) ([]byte, api.Errno) {
	if len(xs) != len(ys) || len(xs) > order {
		return nil, api.ErrSize
	}
	if twice(xs) {
		return nil, api.ErrTwice
	}
	through := make([]byte, len(xs))
	// base is nought at all points so far: any multiple of it may be added, and the values there stay as they are.
	base := make([]byte, len(xs)+1)
	base[0] = 1
	for i, x := range xs {
		lack := ys[i] ^ At(through, x)
		addScaled(through, base[:i+1], Mul(lack, inverse(At(base, x))))
		timesRoot(base, x)
	}
	return trim(through), api.OK
}

// tooLong: is one of them longer than what is multiplied and divided?
func tooLong(p, q []byte) bool {
	return len(p) > api.MaxPoly || len(q) > api.MaxPoly
}

// addScaled adds c times q to p, in place; p is at least as long as q.
func addScaled(p, q []byte, c byte) {
	for i, a := range q {
		p[i] ^= Mul(a, c)
	}
}

// timesRoot multiplies p by x + root, in place; the last coefficient of p is 0, so that there is room.
func timesRoot(p []byte, root byte) {
	var below byte
	for i, c := range p {
		p[i] = Mul(c, root) ^ below
		below = c
	}
}

// trim: p without the noughts at its end.
func trim(p []byte) []byte {
	n := len(p)
	for n > 0 && p[n-1] == 0 {
		n--
	}
	return p[:n]
}

// twice: does a number stand there twice?
func twice(xs []byte) bool {
	var seen [256]bool
	for _, x := range xs {
		if seen[x] {
			return true
		}
		seen[x] = true
	}
	return false
}
