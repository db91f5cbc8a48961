package memory_test

import (
	"bytes"
	"math"
	"math/rand"
	"slices"
	"testing"

	"farhail/api"
	"farhail/memory"
)

const (
	mostWord = 4294967295
	mostCode = 549755813887
)

// far: numbers outside least to most.
func far(least, most int) []int { return []int{least - 1, most + 1, math.MinInt, math.MaxInt} }

// wordPlaces: those that have the word's bits, the lowest first.
func wordPlaces() (out []int) {
	powers := []int{1, 2, 4, 8, 16, 32}
	for place := 1; place <= 38; place++ {
		if !slices.Contains(powers, place) {
			out = append(out, place)
		}
	}
	return out
}

// slowCode: place by place, as the chapter has it.
func slowCode(n int) int {
	var ones [39]int
	for i, place := range wordPlaces() {
		ones[place] = n / (1 << i) % 2
	}
	for _, power := range []int{1, 2, 4, 8, 16, 32} {
		count := 0
		for place := 1; place <= 38; place++ {
			if place/power%2 == 1 {
				count += ones[place]
			}
		}
		ones[power] = count % 2
	}
	c := 0
	for place := 1; place <= 38; place++ {
		c += ones[place] * (1 << place)
		ones[0] = (ones[0] + ones[place]) % 2
	}
	return c + ones[0]
}

// slowWord: what stands at a code's places for the word.
func slowWord(c int) (n int) {
	for i, place := range wordPlaces() {
		n += c / (1 << place) % 2 * (1 << i)
	}
	return n
}

// slowMend: by trying: is it a code, or one but for one bit?
func slowMend(c int) (int, bool, api.Errno) {
	if n := slowWord(c); slowCode(n) == c {
		return n, false, api.OK
	}
	for place := range 39 {
		near := c ^ 1<<place
		if n := slowWord(near); slowCode(n) == near {
			return n, true, api.OK
		}
	}
	return 0, false, api.ErrWord
}

// code: what Code tells, which must not refuse it.
func code(t *testing.T, n int) int {
	t.Helper()
	c, e := memory.Code(n)
	if e != api.OK {
		t.Fatalf("%d: %v", n, e)
	}
	return c
}

// mends: does Mend tell this of a code?
func mends(t *testing.T, c, n int, turned bool, e api.Errno) {
	t.Helper()
	if m, b, f := memory.Mend(c); m != n || b != turned || f != e {
		t.Fatalf("Mend(%#x): %d %v %v; wanted %d %v %v", c, m, b, f, n, turned, e)
	}
}

// someWords: the edges, each bit alone, and others.
func someWords(r *rand.Rand) []int {
	l := []int{0, 1, 2, 3, mostWord, mostWord - 1, 0x55555555, 0xAAAAAAAA, 0x7FFFFFFF}
	for bit := range 32 {
		l = append(l, 1<<bit, mostWord^1<<bit)
	}
	for range 300 {
		l = append(l, r.Intn(mostWord+1))
	}
	return l
}

func TestExamples(t *testing.T) {
	if code(t, 0) != 0 || code(t, 1) != 0xF {
		t.Error(code(t, 0), code(t, 1))
	}
	mends(t, 0xD, 1, true, api.OK)
	mends(t, 0x9, 0, false, api.ErrWord)
}

func TestCode(t *testing.T) {
	for _, n := range someWords(rand.New(rand.NewSource(101))) {
		if c := code(t, n); c != slowCode(n) {
			t.Errorf("%d: %#x; wanted %#x", n, c, slowCode(n))
		}
	}
	// Worked out by hand: the word's highest bit has the place 38, of 2, 4 and 32; its lowest but one the place 5, of 1 and 4.
	if c := code(t, 1<<31); c != 1<<38|1<<32|1<<4|1<<2 {
		t.Errorf("%#x", c)
	}
	if c := code(t, 2); c != 1<<5|1<<4|1<<1|1 {
		t.Errorf("%#x", c)
	}
}

func TestCodeRefuses(t *testing.T) {
	for _, n := range far(0, mostWord) {
		if c, e := memory.Code(n); c != 0 || e != api.ErrRange {
			t.Errorf("%d: %#x %v", n, c, e)
		}
	}
}

func TestNothingWrong(t *testing.T) {
	for _, n := range someWords(rand.New(rand.NewSource(102))) {
		mends(t, slowCode(n), n, false, api.OK)
	}
}

func TestOneWrongBit(t *testing.T) {
	for _, n := range someWords(rand.New(rand.NewSource(103))) {
		for place := range 39 {
			mends(t, slowCode(n)^1<<place, n, true, api.OK)
		}
	}
}

func TestTwoWrongBits(t *testing.T) {
	for _, n := range []int{0, 1, mostWord, 0x12345678, 0xDEADBEEF} {
		for a := range 39 {
			for b := range a {
				mends(t, slowCode(n)^1<<a^1<<b, 0, false, api.ErrWord)
			}
		}
	}
}

// TestMoreWrongBits: what is near to no code is told, what is near to another one is taken for that.
func TestMoreWrongBits(t *testing.T) {
	r := rand.New(rand.NewSource(104))
	count := map[api.Errno]int{}
	for range 20000 {
		c := r.Intn(mostCode + 1)
		n, turned, e := slowMend(c)
		mends(t, c, n, turned, e)
		count[e]++
	}
	if count[api.OK] < 1000 || count[api.ErrWord] < 1000 {
		t.Error(count)
	}
}

// TestNoSuchPlace: an odd number of ones whose places sum up to more than 38.
func TestNoSuchPlace(t *testing.T) {
	count := 0
	for a := range 39 {
		for b := range a {
			for c := range b {
				n, turned, e := slowMend(1<<a | 1<<b | 1<<c)
				mends(t, 1<<a|1<<b|1<<c, n, turned, e)
				if (e == api.ErrWord) != (a^b^c > 38) {
					t.Errorf("%d %d %d: %v", a, b, c, e)
				}
				if e == api.ErrWord {
					count++
				}
			}
		}
	}
	if count == 0 {
		t.Error("there are none")
	}
}

func TestMendRefuses(t *testing.T) {
	for _, c := range far(0, mostCode) {
		mends(t, c, 0, false, api.ErrRange)
	}
	n, turned, e := slowMend(mostCode)
	mends(t, mostCode, n, turned, e)
	for _, bit := range []int{39, 40, 62} {
		mends(t, slowCode(5)|1<<bit, 0, false, api.ErrRange)
	}
	mends(t, slowCode(5)|math.MinInt, 0, false, api.ErrRange)
}

// slowVote of three bytes: what two of them are, or else bit by bit.
func slowVote(a, b, c byte) (out byte) {
	switch {
	case a == b || a == c:
		return a
	case b == c:
		return b
	}
	for bit := range 8 {
		ones := a>>bit&1 + b>>bit&1 + c>>bit&1
		if ones >= 2 {
			out += 1 << bit
		}
	}
	return out
}

// votes: is what three copies say as it should be?
func votes(t *testing.T, a, b, c []byte) {
	t.Helper()
	var want []byte
	var where []int
	for i := range a {
		want = append(want, slowVote(a[i], b[i], c[i]))
		if a[i] != b[i] || b[i] != c[i] {
			where = append(where, i)
		}
	}
	got, at, e := memory.Vote(a, b, c)
	if !bytes.Equal(got, want) || !slices.Equal(at, where) || e != api.OK {
		t.Fatalf("%X %X %X: %X %v %v; wanted %X %v", a, b, c, got, at, e, want, where)
	}
}

func TestVote(t *testing.T) {
	b, at, e := memory.Vote([]byte{1, 7, 9, 9, 0x0F}, []byte{1, 7, 8, 9, 0x33}, []byte{1, 5, 9, 9, 0x55})
	if !bytes.Equal(b, []byte{1, 7, 9, 9, 0x17}) || !slices.Equal(at, []int{1, 2, 4}) || e != api.OK {
		t.Errorf("%X %v %v", b, at, e)
	}
	votes(t, nil, nil, nil)
	votes(t, []byte{}, nil, []byte{})
	votes(t, []byte{5}, []byte{6}, []byte{6}) // the first one alone is another
	votes(t, []byte{6}, []byte{5}, []byte{6})
	votes(t, []byte{6}, []byte{6}, []byte{5})
	r := rand.New(rand.NewSource(105))
	for range 2000 {
		n := r.Intn(40)
		l := [3][]byte{}
		for i := range l {
			for range n {
				l[i] = append(l[i], byte(r.Intn(3)*r.Intn(86)))
			}
		}
		votes(t, l[0], l[1], l[2])
	}
}

// TestTwoCopiesAreRight: then so is what is told, whatever the third one has.
func TestTwoCopiesAreRight(t *testing.T) {
	r := rand.New(rand.NewSource(106))
	for range 500 {
		right := make([]byte, 20)
		r.Read(right)
		l := [3][]byte{slices.Clone(right), slices.Clone(right), slices.Clone(right)}
		for i := range right {
			l[r.Intn(3)][i] = byte(r.Intn(256))
		}
		if b, _, e := memory.Vote(l[0], l[1], l[2]); !bytes.Equal(b, right) || e != api.OK {
			t.Fatalf("%X: %X %v", l, b, e)
		}
	}
}

func TestVoteRefuses(t *testing.T) {
	for a := range 4 {
		for b := range 4 {
			for c := range 4 {
				out, at, e := memory.Vote(make([]byte, a), make([]byte, b), []byte{1, 2, 3}[:c])
				if same := a == b && b == c; same != (e == api.OK) || !same && (e != api.ErrSize || len(out)+len(at) > 0) {
					t.Errorf("%d %d %d bytes: %v %v %v", a, b, c, out, at, e)
				}
			}
		}
	}
}

// TestVoteApart: what is handed in is left alone, and not shared with what is answered; one list may be handed in thrice.
func TestVoteApart(t *testing.T) {
	all := []byte{1, 2, 3, 9, 9, 9}
	l := all[:3]
	b, at, _ := memory.Vote(l, l, []byte{1, 5, 6})
	again, place, _ := memory.Vote(l, l, []byte{1, 5, 6})
	spoilt, _, _ := memory.Vote(l, l, l)
	for _, s := range [][]byte{b, spoilt} {
		s = s[:cap(s)]
		for i := range s {
			s[i] = 77
		}
	}
	at = at[:cap(at)]
	for i := range at {
		at[i] = 77
	}
	if !bytes.Equal(all, []byte{1, 2, 3, 9, 9, 9}) || !bytes.Equal(again, []byte{1, 2, 3}) || !slices.Equal(place, []int{1, 2}) {
		t.Error(all, again, place)
	}
}
