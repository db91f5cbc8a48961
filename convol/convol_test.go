package convol_test

import (
	"math"
	"slices"
	"testing"

	"farhail/api"
	"farhail/convol"
)

// die: numbers that look drawn, the same each time.
type die uint64

func (d *die) n(most int) int {
	*d = *d*6364136223846793005 + 1442695040888963407
	return int(uint64(*d>>33) % uint64(most))
}

func (d *die) bits(n int) []byte {
	list := make([]byte, n)
	for i := range list {
		list[i] = byte(d.n(2))
	}
	return list
}

// soft: n numbers from -most to most.
func (d *die) soft(n, most int) []int {
	list := make([]int, n)
	for i := range list {
		list[i] = d.n(2*most+1) - most
	}
	return list
}

var rates = []api.Rate{api.Half, api.Thirds, api.Fourth, api.Sixths, api.Eighth}

// table: the chapter's, row by row.
func table(rate api.Rate) (first, second []int) {
	switch rate {
	case api.Half:
		return []int{1}, []int{1}
	case api.Thirds:
		return []int{1, 0}, []int{1, 1}
	case api.Fourth:
		return []int{1, 0, 1}, []int{1, 1, 0}
	case api.Sixths:
		return []int{1, 0, 1, 0, 1}, []int{1, 1, 0, 1, 0}
	}
	return []int{1, 0, 0, 0, 1, 0, 1}, []int{1, 1, 1, 1, 0, 1, 0}
}

// slowSpread: bit by bit, as the chapter tells it.
func slowSpread(bits []byte, rate api.Rate) []byte {
	first, second := table(rate)
	all := slices.Concat(make([]byte, 6), bits, make([]byte, 6))
	var out []byte
	for i := 6; i < len(all); i++ {
		b := func(ahead int) byte { return all[i-ahead] }
		row := (i - 6) % len(first)
		if first[row] == 1 {
			out = append(out, (b(0)+b(1)+b(2)+b(3)+b(6))%2)
		}
		if second[row] == 1 {
			out = append(out, (1+b(0)+b(2)+b(3)+b(5)+b(6))%2)
		}
	}
	return out
}

// slowCost: what bits cost.
func slowCost(soft []int, bits []byte, rate api.Rate) int {
	cost := 0
	for i, s := range slowSpread(bits, rate) {
		if s == 1 {
			cost += 7 - soft[i]
		} else {
			cost += 7 + soft[i]
		}
	}
	return cost
}

// slowGather tries all bits, the first ones first.
func slowGather(soft []int, n int, rate api.Rate) ([]byte, int) {
	var best []byte
	least := math.MaxInt
	for k := range 1 << n {
		bits := make([]byte, n)
		for i := range bits {
			bits[i] = byte(k >> (n - 1 - i) & 1)
		}
		if c := slowCost(soft, bits, rate); c < least {
			best, least = bits, c
		}
	}
	return best, least
}

// sure: symbols as what comes of them if nothing is doubtful.
func sure(symbols []byte) []int {
	var soft []int
	for _, s := range symbols {
		soft = append(soft, 14*int(s)-7)
	}
	return soft
}

// P3.1: the chapter's example, and bits of which each stands at another place of the register.
func TestSymbolsOfBits(t *testing.T) {
	for _, c := range []struct{ bits, want []byte }{
		{[]byte{1}, []byte{1, 0, 1, 1, 1, 0, 1, 0, 0, 1, 0, 0, 1, 0}},
		{nil, []byte{0, 1, 0, 1, 0, 1, 0, 1, 0, 1, 0, 1}},
		{[]byte{0, 1}, []byte{0, 1, 1, 0, 1, 1, 1, 0, 1, 0, 0, 1, 0, 0, 1, 0}},
		{[]byte{1, 1}, []byte{1, 0, 0, 0, 0, 0, 0, 1, 1, 0, 0, 0, 1, 1, 1, 0}},
	} {
		if got, e := convol.Spread(c.bits, api.Half); e != api.OK || !slices.Equal(got, c.want) {
			t.Errorf("Spread(%v) = %v, %v; want %v", c.bits, got, e, c.want)
		}
	}
}

// P3.1: behind the tail nothing of the bits is left: whatever the bits are, the symbols behind seven noughts are those of noughts.
func TestSymbolsHangOnSevenBits(t *testing.T) {
	d := die(1)
	for range 100 {
		b := d.bits(20)
		got, _ := convol.Spread(append(b, make([]byte, 10)...), api.Half)
		for i := 2 * 26; i < len(got); i++ {
			if got[i] != byte(i%2) {
				t.Fatalf("bits %v: symbol %d is %d", b, i, got[i])
			}
		}
	}
}

// P3.2: how many symbols of n bits and the tail are kept.
func TestSizeOfRates(t *testing.T) {
	for _, c := range []struct {
		rate api.Rate
		n    int
		want int
	}{
		{api.Half, 0, 12}, {api.Half, 1, 14}, {api.Half, 100, 212},
		{api.Thirds, 0, 9}, {api.Thirds, 1, 11}, {api.Thirds, 2, 12}, {api.Thirds, 94, 150},
		{api.Fourth, 0, 8}, {api.Fourth, 1, 10}, {api.Fourth, 2, 11}, {api.Fourth, 3, 12}, {api.Fourth, 294, 400},
		{api.Sixths, 0, 8}, {api.Sixths, 1, 9}, {api.Sixths, 2, 10}, {api.Sixths, 3, 11}, {api.Sixths, 4, 12}, {api.Sixths, 494, 600},
		{api.Eighth, 0, 7}, {api.Eighth, 1, 8}, {api.Eighth, 2, 10}, {api.Eighth, 3, 11}, {api.Eighth, 8, 16}, {api.Eighth, 694, 800},
	} {
		got, e := convol.Spread(make([]byte, c.n), c.rate)
		if e != api.OK || len(got) != c.want {
			t.Errorf("rate %d, %d bits: %d symbols, %v; want %d", c.rate, c.n, len(got), e, c.want)
		}
	}
}

// P3.2, P3.3: at all rates, and of all lengths from none to several rounds of the longest row.
func TestSpreadAgainstTheTable(t *testing.T) {
	d := die(2)
	for _, rate := range rates {
		for n := range 60 {
			for range 10 {
				b := d.bits(n)
				got, e := convol.Spread(b, rate)
				if want := slowSpread(b, rate); e != api.OK || !slices.Equal(got, want) {
					t.Fatalf("Spread(%v, %d) = %v, %v; want %v", b, rate, got, e, want)
				}
			}
		}
	}
}

// P3.3: what is refused, and why first.
func TestSpreadRefuses(t *testing.T) {
	most := make([]byte, api.MaxBits)
	more := make([]byte, api.MaxBits+1)
	wrongMost, wrongMore := slices.Clone(most), slices.Clone(more)
	wrongMost[api.MaxBits-1], wrongMore[0] = 2, 2
	for _, c := range []struct {
		name string
		bits []byte
		rate api.Rate
		want api.Errno
	}{
		{"no rate below", []byte{1}, 0, api.ErrKind},
		{"no rate above", []byte{1}, 6, api.ErrKind},
		{"no rate of minus one", nil, -1, api.ErrKind},
		{"no least rate", nil, math.MinInt, api.ErrKind},
		{"no greatest rate", nil, math.MaxInt, api.ErrKind},
		{"kind ahead of size", wrongMore, 6, api.ErrKind},
		{"kind ahead of range", []byte{2}, 0, api.ErrKind},
		{"as many as may be", most, api.Half, api.OK},
		{"one too many", more, api.Half, api.ErrSize},
		{"size ahead of range", wrongMore, api.Eighth, api.ErrSize},
		{"two is no bit", []byte{0, 1, 2}, api.Thirds, api.ErrRange},
		{"the first one is no bit", []byte{255, 0}, api.Fourth, api.ErrRange},
		{"the last one is no bit", wrongMost, api.Sixths, api.ErrRange},
	} {
		got, e := convol.Spread(c.bits, c.rate)
		if e != c.want || e != api.OK && len(got) > 0 {
			t.Errorf("%s: %d symbols, %v; want %v", c.name, len(got), e, c.want)
		}
	}
}

// P3.4: the example; what tells nothing is noughts, and each symbol that is kept costs as much as any other.
func TestGatherOfNothing(t *testing.T) {
	for _, rate := range rates {
		for n := range 40 {
			size := len(slowSpread(make([]byte, n), rate))
			got, cost, e := convol.Gather(make([]int, size), n, rate)
			if e != api.OK || !slices.Equal(got, make([]byte, n)) || cost != 7*size {
				t.Errorf("rate %d, n %d: %v, %d, %v; want noughts, %d", rate, n, got, cost, e, 7*size)
			}
		}
	}
	got, cost, e := convol.Gather(make([]int, 14), 1, api.Half)
	if !slices.Equal(got, []byte{0}) || cost != 98 || e != api.OK {
		t.Error(got, cost, e)
	}
}

// P3.4: against all bits there are, where numbers are small and so many costs are alike.
func TestGatherAgainstAll(t *testing.T) {
	d := die(3)
	for _, rate := range rates {
		for n := range 10 {
			size := len(slowSpread(make([]byte, n), rate))
			for most := range 8 {
				for range 6 {
					soft := d.soft(size, most)
					want, least := slowGather(soft, n, rate)
					got, cost, e := convol.Gather(soft, n, rate)
					if e != api.OK || cost != least || !slices.Equal(got, want) {
						t.Fatalf("Gather(%v, %d, %d) = %v, %d, %v; want %v, %d", soft, n, rate, got, cost, e, want, least)
					}
				}
			}
		}
	}
}

// P3.4: of several the first ones, also where they part early and meet again, which more than seven bits can. Numbers that are mostly nought, or on the edge between two, make them.
func TestGatherTakesTheFirst(t *testing.T) {
	d := die(4)
	for _, rate := range rates {
		for range 12 {
			n := 12
			a, _ := convol.Spread(d.bits(n), rate)
			b, _ := convol.Spread(d.bits(n), rate)
			soft := make([]int, len(a))
			for i := range soft {
				soft[i] = 7*int(a[i]) + 7*int(b[i]) - 7
				if d.n(6) == 0 {
					soft[i] = 0
				}
			}
			want, least := slowGather(soft, n, rate)
			got, cost, e := convol.Gather(soft, n, rate)
			if e != api.OK || cost != least || !slices.Equal(got, want) {
				t.Fatalf("Gather(%v, %d, %d) = %v, %d, %v; want %v, %d", soft, n, rate, got, cost, e, want, least)
			}
		}
	}
}

// P3.4: a long one is worth what its bits cost, and costs no more than what was sent.
func TestGatherOfMany(t *testing.T) {
	d := die(5)
	for _, rate := range rates {
		sent := d.bits(api.MaxBits)
		symbols, _ := convol.Spread(sent, rate)
		soft := sure(symbols)
		got, cost, e := convol.Gather(soft, len(sent), rate)
		if e != api.OK || cost != 0 || !slices.Equal(got, sent) {
			t.Fatalf("rate %d: what is sure is not gathered: cost %d, %v", rate, cost, e)
		}
		for i := range soft {
			soft[i] = min(7, max(-7, soft[i]+d.n(31)-15))
		}
		got, cost, e = convol.Gather(soft, len(sent), rate)
		if e != api.OK || len(got) != len(sent) || cost != slowCost(soft, got, rate) || cost > slowCost(soft, sent, rate) {
			t.Errorf("rate %d: with noise: %d bits, cost %d, %v", rate, len(got), cost, e)
		}
	}
}

// P3.4: a few symbols may be turned round, wherever they are: all choices of short ones, drawn ones of longer ones.
func TestGatherOfTurned(t *testing.T) {
	d := die(6)
	for k, many := range []int{4, 2, 2, 1, 1} {
		rate := rates[k]
		for _, n := range []int{1, 2, 5, 9, 40} {
			sent := d.bits(n)
			symbols, _ := convol.Spread(sent, rate)
			try := func(at ...int) {
				soft := sure(symbols)
				for _, i := range at {
					soft[i] = -soft[i]
				}
				got, cost, e := convol.Gather(soft, n, rate)
				if e != api.OK || cost != 14*len(at) || !slices.Equal(got, sent) {
					t.Fatalf("rate %d: %v with %v turned: %v, %d, %v", rate, sent, at, got, cost, e)
				}
			}
			for i := range symbols {
				try(i)
				for j := range i {
					if many > 1 {
						try(i, j)
					}
				}
			}
			for range 200 {
				first := d.n(len(symbols) - many + 1)
				width := many + d.n(len(symbols)-first-many+1)
				var at []int
				for len(at) < many {
					if i := first + d.n(width); !slices.Contains(at, i) {
						at = append(at, i)
					}
				}
				try(at...)
			}
		}
	}
}

// P3.4: what is refused, and why first.
func TestGatherRefuses(t *testing.T) {
	with := func(n, at, what int) []int {
		l := make([]int, n)
		l[at] = what
		return l
	}
	for _, c := range []struct {
		name string
		soft []int
		n    int
		rate api.Rate
		want api.Errno
	}{
		{"no rate below", make([]int, 14), 1, 0, api.ErrKind},
		{"no rate above", make([]int, 14), 1, 6, api.ErrKind},
		{"no least rate", nil, 0, math.MinInt, api.ErrKind},
		{"no greatest rate", nil, 0, math.MaxInt, api.ErrKind},
		{"kind ahead of size", make([]int, 13), -1, 7, api.ErrKind},
		{"kind ahead of range", with(14, 0, 8), 1, -3, api.ErrKind},
		{"no bits", make([]int, 12), 0, api.Half, api.OK},
		{"fewer than none", make([]int, 10), -1, api.Half, api.ErrSize},
		{"fewer than the tail", nil, -6, api.Half, api.ErrSize},
		{"least n", nil, math.MinInt, api.Half, api.ErrSize},
		{"greatest n", nil, math.MaxInt, api.Half, api.ErrSize},
		{"n just below a wrap-round", nil, math.MaxInt - 5, api.Half, api.ErrSize},
		{"as many as may be", make([]int, 2*(api.MaxBits+6)), api.MaxBits, api.Half, api.OK},
		{"one too many", make([]int, 2*(api.MaxBits+7)), api.MaxBits + 1, api.Half, api.ErrSize},
		{"one number too few", make([]int, 13), 1, api.Half, api.ErrSize},
		{"one number too many", make([]int, 15), 1, api.Half, api.ErrSize},
		{"no numbers", nil, 0, api.Eighth, api.ErrSize},
		{"those of another rate", make([]int, 14), 1, api.Thirds, api.ErrSize},
		{"size ahead of range", with(13, 0, 8), 1, api.Half, api.ErrSize},
		{"just too great", with(11, 0, 8), 1, api.Thirds, api.ErrRange},
		{"just too small", with(11, 10, -8), 1, api.Thirds, api.ErrRange},
		{"greatest", with(11, 5, math.MaxInt), 1, api.Thirds, api.ErrRange},
		{"least", with(11, 5, math.MinInt), 1, api.Thirds, api.ErrRange},
		{"as great as may be", with(11, 5, 7), 1, api.Thirds, api.OK},
		{"as small as may be", with(11, 5, -7), 1, api.Thirds, api.OK},
	} {
		got, cost, e := convol.Gather(c.soft, c.n, c.rate)
		if e != c.want || e != api.OK && (len(got) > 0 || cost != 0) {
			t.Errorf("%s: %d bits, cost %d, %v; want %v", c.name, len(got), cost, e, c.want)
		}
	}
}

// What is handed in is not changed, its spare room neither; answers share nothing with it or with one another.
func TestMemoryStaysApart(t *testing.T) {
	for _, rate := range rates {
		room := []byte{1, 0, 1, 1, 9, 9, 9, 9}
		first, _ := convol.Spread(room[:4], rate)
		second, _ := convol.Spread(room[:4], rate)
		if !slices.Equal(room, []byte{1, 0, 1, 1, 9, 9, 9, 9}) {
			t.Error("Spread changed what it was given:", room)
		}
		spoil(first)
		if want := slowSpread(room[:4], rate); !slices.Equal(second, want) {
			t.Error("answers of Spread share memory:", second)
		}
		soft := append(sure(second), 99, 99, 99)
		before := slices.Clone(soft)
		a, _, _ := convol.Gather(soft[:len(second)], 4, rate)
		b, _, _ := convol.Gather(soft[:len(second)], 4, rate)
		spoil(a)
		if !slices.Equal(soft, before) || !slices.Equal(b, []byte{1, 0, 1, 1}) {
			t.Error("Gather changed what it was given, or its answers share memory:", soft, b)
		}
	}
}

// spoil writes over a list and its spare room.
func spoil(list []byte) {
	list = list[:cap(list)]
	for i := range list {
		list[i] = 77
	}
}
