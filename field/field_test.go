package field_test

import (
	"math"
	"testing"

	"farhail/field"
)

// slowMul: the product as the document words it: both polynomials multiplied out, then the rest by x^8 + x^7 + x^2 + x + 1.
func slowMul(a, b byte) byte {
	product := 0
	for i := range 8 {
		for j := range 8 {
			product ^= int(a>>i&1) * int(b>>j&1) << (i + j)
		}
	}
	for i := 14; i >= 8; i-- {
		if product>>i&1 == 1 {
			product ^= 0b110000111 << (i - 8)
		}
	}
	return byte(product)
}

// eachPair goes over all pairs of numbers.
func eachPair(yield func(a, b byte) bool) {
	for a := range 256 {
		for b := range 256 {
			if !yield(byte(a), byte(b)) {
				return
			}
		}
	}
}

// P1.1
func TestMulIsTheProductOfPolynomials(t *testing.T) {
	if got := field.Mul(2, 128); got != 135 {
		t.Errorf("Mul(2, 128) is %d, not 135", got)
	}
	for a, b := range eachPair {
		if got, want := field.Mul(a, b), slowMul(a, b); got != want {
			t.Fatalf("Mul(%d, %d) is %d, not %d", a, b, got, want)
		}
	}
}

// P1.1
func TestMulKeepsTheLawsOfAField(t *testing.T) {
	for a, b := range eachPair {
		ab := field.Mul(a, b)
		if ab != field.Mul(b, a) {
			t.Fatalf("%d * %d is not %d * %d", a, b, b, a)
		}
		if (ab == 0) != (a == 0 || b == 0) {
			t.Fatalf("%d * %d is %d", a, b, ab)
		}
		for c := 1; c < 256; c += 13 {
			c := byte(c)
			if field.Mul(ab, c) != field.Mul(a, field.Mul(b, c)) {
				t.Fatalf("(%d * %d) * %d is not %d * (%d * %d)", a, b, c, a, b, c)
			}
			if field.Mul(a^b, c) != field.Mul(a, c)^field.Mul(b, c) {
				t.Fatalf("(%d + %d) * %d is not %d * %d + %d * %d", a, b, c, a, c, b, c)
			}
		}
	}
}

// P1.1
func TestDivTakesMulBack(t *testing.T) {
	if q, ok := field.Div(1, 2); q != 195 || !ok {
		t.Errorf("Div(1, 2) is %d, %t, not 195, true", q, ok)
	}
	for a, b := range eachPair {
		q, ok := field.Div(a, b)
		if b == 0 {
			if q != 0 || ok {
				t.Fatalf("Div(%d, 0) is %d, %t, not 0, false", a, q, ok)
			}
			continue
		}
		if !ok || slowMul(q, b) != a {
			t.Fatalf("Div(%d, %d) is %d, %t; times %d that is %d", a, b, q, ok, b, slowMul(q, b))
		}
	}
}

// P1.2
func TestPowerIsTwoByItself(t *testing.T) {
	for n, want := range map[int]byte{0: 1, 1: 2, 7: 128, 8: 135, -1: 195, 255: 1, -255: 1} {
		if got := field.Power(n); got != want {
			t.Errorf("Power(%d) is %d, not %d", n, got, want)
		}
	}
	want := byte(1)
	for n := range 600 {
		got := field.Power(n)
		if got != want {
			t.Fatalf("Power(%d) is %d, not %d", n, got, want)
		}
		if back := field.Power(-n); slowMul(got, back) != 1 {
			t.Fatalf("Power(%d) times Power(%d) is %d", n, -n, slowMul(got, back))
		}
		want = slowMul(want, 2)
	}
}

// P1.2
func TestPowerCountsModulo255(t *testing.T) {
	for _, n := range []int{math.MinInt, math.MinInt + 1, -1 << 40, -256, -254, 254, 256, 1 << 40, math.MaxInt - 1, math.MaxInt} {
		small := (n%255 + 255) % 255
		if field.Power(n) != field.Power(small) {
			t.Errorf("Power(%d) is not Power(%d)", n, small)
		}
	}
}

// P1.2
func TestLogIsTheWayBackFromPower(t *testing.T) {
	if n, ok := field.Log(0); n != 0 || ok {
		t.Errorf("Log(0) is %d, %t, not 0, false", n, ok)
	}
	var seen [255]bool
	for a := 1; a < 256; a++ {
		n, ok := field.Log(byte(a))
		if !ok || n < 0 || n > 254 || field.Power(n) != byte(a) {
			t.Fatalf("Log(%d) is %d, %t", a, n, ok)
		}
		if seen[n] {
			t.Fatalf("Log is %d of two numbers, one is %d", n, a)
		}
		seen[n] = true
	}
	if n, ok := field.Log(1); n != 0 || !ok {
		t.Errorf("Log(1) is %d, %t, not 0, true", n, ok)
	}
}
