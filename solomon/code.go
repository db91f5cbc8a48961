package solomon

import (
	"bytes"
	"slices"

	"farhail/field"
)

// Polynomials have the coefficient of x^0 first, as package field has them; a word has it last. Words are far shorter than what package field multiplies and divides, and no divisor here is nought: so its refusals are passed over.

// poly: a word as a polynomial.
func poly(word []byte) []byte {
	p := bytes.Clone(word)
	slices.Reverse(p)
	return p
}

// generator: the product of all x + Power(j), which divides each code word.
func generator(checks int) []byte {
	product := []byte{1}
	for j := range checks {
		product, _ = field.Times(product, []byte{field.Power(j + 1), 1})
	}
	return product
}

// encode: data, and behind them the rest which makes the generator divide the whole.
func encode(data []byte, checks int) []byte {
	word := make([]byte, len(data)+checks)
	copy(word, data)
	_, rest, _ := field.Over(poly(word), generator(checks))
	for i, c := range rest {
		word[len(word)-1-i] = c
	}
	return word
}

// values: what a word is at Power(1), Power(2), ..: of a code word all of them are nought, and then the answer is empty.
func values(word []byte, checks int) []byte {
	p := poly(word)
	at := make([]byte, checks)
	for j := range at {
		at[j] = field.At(p, field.Power(j+1))
	}
	return trim(at)
}

// trim: p without the noughts at its end.
func trim(p []byte) []byte {
	return bytes.TrimRight(p, "\x00")
}
