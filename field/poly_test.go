package field_test

import (
	"bytes"
	"testing"

	"farhail/api"
	"farhail/field"
)

// die gives numbers that look drawn, the same ones each time.
type die uint64

func (d *die) below(n int) int {
	*d = *d*6364136223846793005 + 1442695040888963407
	return int(uint64(*d>>33) % uint64(n))
}

// poly draws a polynomial of so many coefficients, of which some are nought.
func (d *die) poly(n int) []byte {
	p := make([]byte, n)
	for i := range p {
		if d.below(4) > 0 {
			p[i] = byte(d.below(256))
		}
	}
	return p
}

// points draws so many different numbers.
func (d *die) points(n int) []byte {
	all := make([]byte, 256)
	for i := range all {
		all[i] = byte(i)
	}
	for i := range n {
		j := i + d.below(256-i)
		all[i], all[j] = all[j], all[i]
	}
	return all[:n]
}

// degree: how many coefficients count.
func degree(p []byte) int {
	return len(bytes.TrimRight(p, "\x00"))
}

// slowSum and slowTimes work coefficient by coefficient, and may have noughts at their end.
func slowSum(p, q []byte) []byte {
	out := make([]byte, max(len(p), len(q)))
	for i := range out {
		if i < len(p) {
			out[i] ^= p[i]
		}
		if i < len(q) {
			out[i] ^= q[i]
		}
	}
	return out
}

func slowTimes(p, q []byte) []byte {
	out := make([]byte, len(p)+len(q))
	for i, a := range p {
		for j, b := range q {
			out[i+j] ^= slowMul(a, b)
		}
	}
	return out
}

// same: is got just want without the noughts at its end?
func same(got, want []byte) bool {
	return bytes.Equal(got, want[:degree(want)])
}

// lent: p with spare room behind it that is filled, and a look at whether both are as they were.
func lent(p []byte) ([]byte, func() bool) {
	whole := append(append([]byte{}, p...), 0xA5, 0xA5, 0xA5, 0xA5)
	before := bytes.Clone(whole)
	return whole[:len(p)], func() bool { return bytes.Equal(whole, before) }
}

// scribble writes over all of a list, its spare room too.
func scribble(p []byte) {
	p = p[:cap(p)]
	for i := range p {
		p[i] ^= 0xFF
	}
}

// P1.3
func TestSum(t *testing.T) {
	for _, c := range []struct{ p, q, want []byte }{
		{nil, nil, nil},
		{[]byte{}, []byte{0, 0, 0}, nil},
		{[]byte{1, 2, 3}, []byte{1, 2, 3}, nil},
		{[]byte{1, 2, 3}, []byte{0, 1, 3}, []byte{1, 3}},
		{[]byte{5}, []byte{1, 2, 3}, []byte{4, 2, 3}},
		{[]byte{1, 2, 3}, []byte{5}, []byte{4, 2, 3}},
		{[]byte{0, 9, 0}, nil, []byte{0, 9}},
	} {
		if got := field.Sum(c.p, c.q); !bytes.Equal(got, c.want) {
			t.Errorf("Sum of %v and %v is %v, not %v", c.p, c.q, got, c.want)
		}
	}
	d := die(1)
	for range 300 {
		p, q := d.poly(d.below(20)), d.poly(d.below(20))
		if got := field.Sum(p, q); !same(got, slowSum(p, q)) {
			t.Fatalf("Sum of %v and %v is %v", p, q, got)
		}
	}
}

// P1.3: only what is multiplied and divided is bounded.
func TestSumAndAtHaveNoLimit(t *testing.T) {
	d := die(2)
	p, q := d.poly(api.MaxPoly+100), d.poly(5*api.MaxPoly)
	if got := field.Sum(p, q); !same(got, slowSum(p, q)) {
		t.Error("a long sum is wrong")
	}
	if got, want := field.At(q, 3), slowAt(q, 3); got != want {
		t.Errorf("a long polynomial's value is %d, not %d", got, want)
	}
}

// P1.3
func TestTimes(t *testing.T) {
	for _, c := range []struct{ p, q, want []byte }{
		{[]byte{1, 1}, []byte{2, 1}, []byte{2, 3, 1}},
		{nil, nil, nil},
		{nil, []byte{1, 2}, nil},
		{[]byte{1, 2}, []byte{0, 0}, nil},
		{[]byte{2, 0, 0}, []byte{128, 0}, []byte{135}},
		{[]byte{0, 0, 3}, []byte{0, 1}, []byte{0, 0, 0, 3}},
	} {
		if got, e := field.Times(c.p, c.q); e != api.OK || !bytes.Equal(got, c.want) {
			t.Errorf("Times of %v and %v is %v, %v, not %v", c.p, c.q, got, e, c.want)
		}
	}
	d := die(3)
	for range 300 {
		p, q := d.poly(d.below(20)), d.poly(d.below(20))
		if got, e := field.Times(p, q); e != api.OK || !same(got, slowTimes(p, q)) {
			t.Fatalf("Times of %v and %v is %v, %v", p, q, got, e)
		}
	}
}

// P1.3
func TestTheLongestPolynomials(t *testing.T) {
	d := die(4)
	p, q := d.poly(api.MaxPoly), d.poly(api.MaxPoly)
	p[api.MaxPoly-1], q[api.MaxPoly-1] = 7, 9
	m, e := field.Times(p, q)
	if e != api.OK || !same(m, slowTimes(p, q)) || len(m) != 2*api.MaxPoly-1 {
		t.Errorf("Times of the longest ones: %d coefficients, %v", len(m), e)
	}
	a, r, e := field.Over(p, q)
	if e != api.OK || len(a) != 1 || !same(p, slowSum(slowTimes(a, q), r)) {
		t.Errorf("Over of the longest ones: %v, %v", a, e)
	}
	if a, r, e := field.Over(p, []byte{1}); e != api.OK || !same(a, p) || len(r) != 0 {
		t.Errorf("Over of the longest one by 1: %v, %v, %v", a, r, e)
	}
}

// P1.3: noughts at the end count against the limit, and ErrSize is named ahead of ErrZero.
func TestTooLongPolynomials(t *testing.T) {
	long, short := make([]byte, api.MaxPoly+1), []byte{1, 2}
	long[0] = 1
	nought := make([]byte, api.MaxPoly+1)
	for _, c := range [][2][]byte{{long, short}, {short, long}, {long, long}, {long, nil}, {nil, nought}} {
		if m, e := field.Times(c[0], c[1]); e != api.ErrSize || len(m) != 0 {
			t.Errorf("Times of %d and %d coefficients: %v, %v", len(c[0]), len(c[1]), m, e)
		}
		if a, r, e := field.Over(c[0], c[1]); e != api.ErrSize || len(a) != 0 || len(r) != 0 {
			t.Errorf("Over of %d and %d coefficients: %v, %v, %v", len(c[0]), len(c[1]), a, r, e)
		}
	}
}

// P1.3
func TestOver(t *testing.T) {
	for _, c := range []struct{ p, q, quotient, rest []byte }{
		{[]byte{2, 3, 1}, []byte{1, 1}, []byte{2, 1}, nil},
		{[]byte{2, 3, 1, 0}, []byte{1, 1, 0, 0, 0, 0, 0}, []byte{2, 1}, nil},
		{[]byte{3, 3, 1}, []byte{1, 1}, []byte{2, 1}, []byte{1}},
		{[]byte{7, 8}, []byte{1, 2, 3}, nil, []byte{7, 8}},
		{[]byte{7, 8, 0, 0, 0}, []byte{1, 2, 3}, nil, []byte{7, 8}},
		{nil, []byte{1}, nil, nil},
		{[]byte{0, 0}, []byte{0, 5}, nil, nil},
		{[]byte{135, 4}, []byte{2}, []byte{128, 2}, nil},
	} {
		a, r, e := field.Over(c.p, c.q)
		if e != api.OK || !bytes.Equal(a, c.quotient) || !bytes.Equal(r, c.rest) {
			t.Errorf("Over of %v by %v is %v, %v, %v, not %v, %v", c.p, c.q, a, r, e, c.quotient, c.rest)
		}
	}
	d := die(5)
	for range 500 {
		p, q := d.poly(d.below(24)), d.poly(1+d.below(12))
		q[0] |= 1
		a, r, e := field.Over(p, q)
		if e != api.OK || degree(a) != len(a) || degree(r) != len(r) || len(r) >= degree(q) {
			t.Fatalf("Over of %v by %v is %v, %v, %v", p, q, a, r, e)
		}
		if back := slowSum(slowTimes(a, q), r); degree(slowSum(back, p)) != 0 {
			t.Fatalf("Over of %v by %v is %v, %v: times and plus, that is %v", p, q, a, r, back)
		}
	}
}

// P1.3
func TestOverNought(t *testing.T) {
	for _, q := range [][]byte{nil, {}, {0}, {0, 0, 0}, make([]byte, api.MaxPoly)} {
		for _, p := range [][]byte{nil, {1, 2, 3}} {
			if a, r, e := field.Over(p, q); e != api.ErrZero || len(a) != 0 || len(r) != 0 {
				t.Errorf("Over of %v by %d noughts is %v, %v, %v", p, len(q), a, r, e)
			}
		}
	}
}

// slowAt: term by term.
func slowAt(p []byte, x byte) byte {
	sum, power := byte(0), byte(1)
	for _, c := range p {
		sum ^= slowMul(c, power)
		power = slowMul(power, x)
	}
	return sum
}

// P1.3
func TestAt(t *testing.T) {
	for x := range 256 {
		x := byte(x)
		if field.At(nil, x) != 0 || field.At([]byte{0, 0}, x) != 0 {
			t.Fatalf("nought is not 0 at %d", x)
		}
		if field.At([]byte{9, 0}, x) != 9 || field.At([]byte{5, 1}, x) != 5^x {
			t.Fatalf("9 or 5 + x is wrong at %d", x)
		}
	}
	if got := field.At([]byte{6, 7, 8}, 0); got != 6 {
		t.Errorf("at 0 it is %d, not its first coefficient", got)
	}
	d := die(6)
	for range 200 {
		p, q, x := d.poly(d.below(20)), d.poly(d.below(20)), byte(d.below(256))
		if field.At(p, x) != slowAt(p, x) {
			t.Fatalf("At of %v, %d is %d, not %d", p, x, field.At(p, x), slowAt(p, x))
		}
		m, _ := field.Times(p, q)
		if field.At(m, x) != field.Mul(field.At(p, x), field.At(q, x)) {
			t.Fatalf("the value of %v times %v at %d is not the product of the values", p, q, x)
		}
	}
}

// P1.4
func TestThrough(t *testing.T) {
	for _, c := range []struct{ xs, ys, want []byte }{
		{[]byte{1, 2}, []byte{5, 5}, []byte{5}},
		{nil, nil, nil},
		{[]byte{}, nil, nil},
		{[]byte{7}, []byte{0}, nil},
		{[]byte{0}, []byte{3}, []byte{3}},
		{[]byte{0, 1}, []byte{5, 4}, []byte{5, 1}},
		{[]byte{4, 9, 30}, []byte{4, 9, 30}, []byte{0, 1}},
		{[]byte{1, 2, 3}, []byte{0, 0, 0}, nil},
	} {
		if got, e := field.Through(c.xs, c.ys); e != api.OK || !bytes.Equal(got, c.want) {
			t.Errorf("Through of %v, %v is %v, %v, not %v", c.xs, c.ys, got, e, c.want)
		}
	}
}

// P1.4: there is just one, so the polynomial from which the points were taken comes back.
func TestThroughItsOwnPoints(t *testing.T) {
	d := die(7)
	sizes := []int{1, 2, 254, 255, 255}
	for range 200 {
		sizes = append(sizes, 1+d.below(30))
	}
	for _, n := range sizes {
		p, xs := d.poly(n), d.points(n)
		ys := make([]byte, n)
		for i, x := range xs {
			ys[i] = slowAt(p, x)
		}
		if got, e := field.Through(xs, ys); e != api.OK || !same(got, p) {
			t.Fatalf("Through of %d points of %v: %v, %v", n, p, got, e)
		}
	}
}

// P1.4
func TestThroughGoesThroughAnyPoints(t *testing.T) {
	d := die(8)
	for range 100 {
		n := d.below(256)
		xs, ys := d.points(n), d.poly(n)
		p, e := field.Through(xs, ys)
		if e != api.OK || len(p) > n || degree(p) != len(p) {
			t.Fatalf("Through of %d points: %d coefficients, %v", n, len(p), e)
		}
		for i, x := range xs {
			if slowAt(p, x) != ys[i] {
				t.Fatalf("Through of %v, %v: at %d it is %d", xs, ys, x, slowAt(p, x))
			}
		}
	}
}

// P1.4
func TestThroughWrongPoints(t *testing.T) {
	d := die(9)
	all, zeros := d.points(256), make([]byte, 300)
	for _, c := range []struct {
		what   string
		xs, ys []byte
		want   api.Errno
	}{
		{"fewer ys", []byte{1, 2}, []byte{1}, api.ErrSize},
		{"fewer xs", nil, []byte{1}, api.ErrSize},
		{"not as many, and twice", []byte{1, 1}, []byte{1}, api.ErrSize},
		{"256 points", all, all, api.ErrSize},
		{"300 points, and twice", zeros, zeros, api.ErrSize},
		{"255 points, all alike", zeros[:255], zeros[:255], api.ErrTwice},
		{"twice", []byte{3, 4, 3}, []byte{1, 2, 1}, api.ErrTwice},
		{"nought twice", []byte{0, 0}, []byte{1, 2}, api.ErrTwice},
		{"255 twice", []byte{255, 1, 255}, []byte{0, 0, 0}, api.ErrTwice},
	} {
		if got, e := field.Through(c.xs, c.ys); e != c.want || len(got) != 0 {
			t.Errorf("%s: %v, %v, not %v", c.what, got, e, c.want)
		}
	}
}

// What holds everywhere: lists that are handed in stay as they are, their spare room too; answers are new memory.
func TestListsAreNotSharedAndNotChanged(t *testing.T) {
	first, second := []byte{1, 2, 3, 4, 5}, []byte{6, 7, 8}
	calls := map[string]func(p, q []byte) [][]byte{
		"Sum": func(p, q []byte) [][]byte { return [][]byte{field.Sum(p, q)} },
		"Times": func(p, q []byte) [][]byte {
			m, _ := field.Times(p, q)
			return [][]byte{m}
		},
		"Over": func(p, q []byte) [][]byte {
			a, r, _ := field.Over(p, q)
			return [][]byte{a, r}
		},
		"Through": func(p, q []byte) [][]byte {
			s, _ := field.Through(p[:3], q[:3])
			return [][]byte{s}
		},
		"At": func(p, q []byte) [][]byte { return [][]byte{{field.At(p, q[0])}} },
	}
	for name, call := range calls {
		for _, pair := range [][2][]byte{{first, second}, {second, first}, {first, []byte{1, 0, 0}}, {first, []byte{0, 0, 0}}} {
			p, pStays := lent(pair[0])
			q, qStays := lent(pair[1])
			once, again := call(p, q), call(p, q)
			for i := range once {
				kept := bytes.Clone(again[i])
				for j := range once {
					scribble(once[j])
					if j != i {
						scribble(again[j])
					}
				}
				if !bytes.Equal(kept, again[i]) {
					t.Errorf("%s of %v and %v: two answers share memory", name, p, q)
				}
			}
			if !pStays() || !qStays() {
				t.Errorf("%s of %v and %v: a list that was handed in has changed", name, pair[0], pair[1])
			}
		}
	}
}
