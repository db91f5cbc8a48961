package solomon

import "farhail/field"

// decode mends a word in place. What is tried is the one way in which a code word could be near enough; it is taken just if it leads to a code word.
func decode(word []byte, checks int, doubtful []bool) mended {
	holes := count(doubtful)
	if holes > checks {
		return mended{lost: true}
	}
	var places []int
	if known := values(word, checks); len(known) > 0 {
		accused, size := accuse(known, checks, holes, doubtful)
		places = mend(word, accused, size)
		if len(values(word, checks)) > 0 {
			return mended{lost: true}
		}
	}
	return mended{data: word[:len(word)-checks], places: places}
}

// count: how many places are doubtful?
func count(doubtful []bool) int {
	n := 0
	for _, d := range doubtful {
		if d {
			n++
		}
	}
	return n
}

// mend changes the word at those places that are accused, and tells them, rising.
func mend(word, accused, size []byte) []int {
	slope := derivative(accused)
	var places []int
	for p := range word {
		x := field.Power(p + 1 - len(word))
		if field.At(accused, x) != 0 {
			continue
		}
		by, _ := field.Div(field.At(size, x), field.At(slope, x))
		if by != 0 {
			word[p] ^= by
			places = append(places, p)
		}
	}
	return places
}

// accuse: a polynomial which is nought at 1/X for each wrong or doubtful place of weight X; and one from whose values there it follows by how much each of them is wrong. (The weight of a place is Power of its exponent.) Of places that are no holes so few are accused that twice their number and the holes are at most checks.
func accuse(known []byte, checks, holes int, doubtful []bool) ([]byte, []byte) {
	ofHoles := []byte{1}
	for p, d := range doubtful {
		if d {
			weight := field.Power(len(doubtful) - 1 - p)
			ofHoles, _ = field.Times(ofHoles, []byte{1, weight})
		}
	}
	product, _ := field.Times(known, ofHoles)
	others, size := shortest(trim(product[:min(len(product), checks)]), checks, holes)
	accused, _ := field.Times(others, ofHoles)
	return accused, size
}

// shortest: a factor of at most half of checks - holes as its degree which, times known and modulo x^checks, leaves a rest of degree below half of checks + holes; and that rest. Euclid's way with x^checks and known comes by it: the degrees of the factor and of the rest before are together checks.
func shortest(known []byte, checks, holes int) ([]byte, []byte) {
	last, rest := make([]byte, checks+1), known
	last[checks] = 1
	before, factor := []byte{}, []byte{1}
	for 2*(len(rest)-1) >= checks+holes {
		quotient, next, _ := field.Over(last, rest)
		more, _ := field.Times(quotient, factor)
		last, rest = rest, next
		before, factor = factor, field.Sum(before, more)
	}
	return factor, rest
}

// derivative: since 1 + 1 is nought, just the odd powers leave something.
func derivative(p []byte) []byte {
	slope := make([]byte, len(p))
	for i := 1; i < len(p); i += 2 {
		slope[i-1] = p[i]
	}
	return slope
}
