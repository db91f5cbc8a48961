package passes_test

import (
	"math"
	"math/rand"
	"slices"
	"testing"

	"farhail/api"
	"farhail/passes"
)

// far: numbers outside least to most.
func far(least, most int) []int { return []int{least - 1, most + 1, math.MinInt, math.MaxInt} }

// choice: the places of passes in the order of time, and their worth.
type choice struct {
	places []int
	worth  int
}

// over: is a choice to be preferred to another one?
func (c choice) over(d choice) bool {
	switch {
	case c.worth != d.worth:
		return c.worth > d.worth
	case len(c.places) != len(d.places):
		return len(c.places) < len(d.places)
	}
	return slices.Compare(c.places, d.places) < 0
}

// together: may passes, in the order of time, all be taken?
func together(l []api.Pass, gap int) bool {
	for i, p := range l {
		for k, q := range l[i+1:] {
			if p.To > q.From || k == 0 && p.Station != q.Station && q.From-p.To < gap {
				return false
			}
		}
	}
	return true
}

// choiceOf the passes at some places; false, if they may not be taken together.
func choiceOf(l []api.Pass, places []int, gap int) (choice, bool) {
	c := choice{places: slices.Clone(places)}
	slices.SortFunc(c.places, func(a, b int) int { return l[a].From - l[b].From })
	var taken []api.Pass
	for _, i := range c.places {
		taken = append(taken, l[i])
		c.worth += l[i].Worth
	}
	return c, together(taken, gap)
}

// tryAll ways to choose, and tell the best one.
func tryAll(l []api.Pass, gap int) (best choice) {
	for set := range 1 << len(l) {
		var places []int
		for i := range l {
			if set>>i&1 == 1 {
				places = append(places, i)
			}
		}
		if c, may := choiceOf(l, places, gap); may && c.over(best) {
			best = c
		}
	}
	return best
}

// endings: the best choice, by the best ones that end with each pass, the earliest first.
func endings(l []api.Pass, gap int) (best choice) {
	order := make([]int, len(l))
	for i := range order {
		order[i] = i
	}
	slices.SortFunc(order, func(a, b int) int { return l[a].To - l[b].To })
	ends := make([]choice, len(l))
	for k, i := range order {
		var ahead choice
		for _, j := range order[:k] {
			if together([]api.Pass{l[j], l[i]}, gap) && ends[j].over(ahead) {
				ahead = ends[j]
			}
		}
		ends[i] = choice{append(slices.Clone(ahead.places), i), ahead.worth + l[i].Worth}
		if ends[i].over(best) {
			best = ends[i]
		}
	}
	return best
}

// chosen: does Choose tell that?
func chosen(t *testing.T, l []api.Pass, gap int, want choice) {
	t.Helper()
	a, n, e := passes.Choose(l, gap)
	if e != api.OK || !slices.Equal(a, want.places) || n != want.worth {
		t.Errorf("%v, gap %d: %v %d %v, not %v", l[:min(len(l), 20)], gap, a, n, e, want)
	}
}

// drawnPass: within so much time, of so many stations, worth so much.
func drawnPass(r *rand.Rand, time, long, stations, worth int) api.Pass {
	from := r.Intn(time - long)
	return api.Pass{Station: r.Intn(stations), From: from, To: from + 1 + r.Intn(long), Worth: r.Intn(worth + 1)}
}

func TestChooseExamples(t *testing.T) {
	l := []api.Pass{{From: 0, To: 10, Worth: 5}, {From: 10, To: 20, Worth: 5}, {From: 5, To: 15, Worth: 9}}
	for _, gap := range []int{0, 1, 7, api.MaxGap} {
		chosen(t, l, gap, choice{[]int{0, 1}, 10})
	}
	l[1].Station = 1
	chosen(t, l, 0, choice{[]int{0, 1}, 10})
	chosen(t, l, 1, choice{[]int{2}, 9})
	l[0].Station, l[1].Station = 1, 0
	chosen(t, l, 1, choice{[]int{2}, 9})
}

// TestChooseBest: of all ways to choose none is better.
func TestChooseBest(t *testing.T) {
	r := rand.New(rand.NewSource(131))
	for range 3000 {
		var l []api.Pass
		time := 10 + r.Intn(50)
		stations, worth := 1+r.Intn(3), []int{0, 1, 2, 5, 20}[r.Intn(5)]
		for range r.Intn(10) {
			l = append(l, drawnPass(r, time, 1+r.Intn(9), stations, worth))
		}
		gap := r.Intn(6)
		chosen(t, l, gap, tryAll(l, gap))
	}
}

// TestChooseMany: as many passes as there may be.
func TestChooseMany(t *testing.T) {
	r := rand.New(rand.NewSource(132))
	for range 60 {
		var l []api.Pass
		time := []int{300, 3000, api.MaxTime}[r.Intn(3)]
		long, worth := 1+r.Intn(time/20), []int{1, 3, 50, api.MaxWorth}[r.Intn(4)]
		for range api.MaxPasses - r.Intn(2)*r.Intn(50) {
			l = append(l, drawnPass(r, time, long, api.MaxStation+1, worth))
		}
		gap := []int{0, 1, 20, api.MaxGap}[r.Intn(4)]
		chosen(t, l, gap, endings(l, gap))
	}
}

// TestChooseGap: what is asked between stations, to the tick; of one station nothing is.
func TestChooseGap(t *testing.T) {
	both := choice{[]int{0, 1}, 5}
	for _, gap := range []int{0, 1, 2, 999, api.MaxGap} {
		l := []api.Pass{{Station: 3, From: 5, To: 9, Worth: 2}, {Station: 4, From: 9 + gap, To: 2000, Worth: 3}}
		chosen(t, l, gap, both)
		l[1].From--
		chosen(t, l, gap, choice{[]int{1}, 3})
		l[1].Station = 3
		if gap > 0 {
			chosen(t, l, gap, both)
		} else {
			chosen(t, l, gap, choice{[]int{1}, 3})
		}
	}
	// The gap is asked twice, around a pass of another station.
	l := []api.Pass{{Station: 1, From: 0, To: 10, Worth: 4}, {Station: 2, From: 15, To: 20, Worth: 1}, {Station: 1, From: 25, To: 30, Worth: 4}}
	chosen(t, l, 5, choice{[]int{0, 1, 2}, 9})
	chosen(t, l, 6, choice{[]int{0, 2}, 8})
}

// TestChooseAlike: of choices of one worth the fewest passes, then the first places in the order of time.
func TestChooseAlike(t *testing.T) {
	two := []api.Pass{{From: 0, To: 5, Worth: 3}, {From: 5, To: 9, Worth: 3}}
	chosen(t, append(slices.Clone(two), api.Pass{From: 1, To: 8, Worth: 6}), 0, choice{[]int{2}, 6})
	chosen(t, append(slices.Clone(two), api.Pass{From: 1, To: 8, Worth: 5}), 0, choice{[]int{0, 1}, 6})
	// What is worth nothing is not taken, though it could be.
	chosen(t, append(slices.Clone(two), api.Pass{From: 20, To: 21}), 0, choice{[]int{0, 1}, 6})
	chosen(t, append([]api.Pass{{From: 20, To: 21}}, two...), 0, choice{[]int{1, 2}, 6})
	chosen(t, []api.Pass{{From: 0, To: 5}, {From: 5, To: 9}}, 0, choice{})
	chosen(t, slices.Repeat(two[:1], 5), 0, choice{[]int{0}, 3})
	l := []api.Pass{{From: 10, To: 20, Worth: 1}, {From: 0, To: 9, Worth: 1}, {From: 0, To: 10, Worth: 1}, {From: 9, To: 20, Worth: 1}}
	chosen(t, l, 0, choice{[]int{1, 0}, 2})
	// Now 2, 0 and 1, 3 are left: 1, 3 is first, though 0 is the least place.
	l[0].Station, l[2].Station = 1, 1
	chosen(t, l, 2, choice{[]int{1, 3}, 2})
	l[1].From, l[1].To = 2, 10
	chosen(t, l, 2, choice{[]int{2, 0}, 2})
}

// TestChooseEnds: at the limits of what may be.
func TestChooseEnds(t *testing.T) {
	chosen(t, nil, 0, choice{})
	chosen(t, []api.Pass{}, api.MaxGap, choice{})
	chosen(t, []api.Pass{{Station: api.MaxStation, From: 0, To: api.MaxTime, Worth: api.MaxWorth}}, 0, choice{[]int{0}, api.MaxWorth})
	chosen(t, []api.Pass{{From: api.MaxTime - 1, To: api.MaxTime, Worth: 1}, {From: 0, To: 1, Worth: 1}}, api.MaxGap, choice{[]int{1, 0}, 2})
	var all []api.Pass
	want := choice{worth: api.MaxPasses * api.MaxWorth}
	for i := range api.MaxPasses {
		from := api.MaxTime - (i+1)*5000
		all = append(all, api.Pass{Station: i % (api.MaxStation + 1), From: from, To: from + 4000, Worth: api.MaxWorth})
		want.places = append([]int{i}, want.places...)
	}
	chosen(t, all, api.MaxGap, want)
}

// notChosen: is that refused so?
func notChosen(t *testing.T, l []api.Pass, gap int, want api.Errno) {
	t.Helper()
	if a, n, e := passes.Choose(l, gap); e != want || len(a) != 0 || n != 0 {
		t.Errorf("%v, gap %d: %v %d %v, not %v", l[:min(len(l), 20)], gap, a, n, e, want)
	}
}

// wrongPasses: each with one number that may not be.
func wrongPasses() (l []api.Pass) {
	for _, n := range far(0, api.MaxStation) {
		l = append(l, api.Pass{Station: n, To: 1})
	}
	for _, n := range far(0, api.MaxTime) {
		l = append(l, api.Pass{From: n, To: api.MaxTime}, api.Pass{From: n, To: n + 1}, api.Pass{From: n, To: n}, api.Pass{From: 0, To: n}, api.Pass{From: 7, To: n})
	}
	for _, n := range far(0, api.MaxWorth) {
		l = append(l, api.Pass{To: 1, Worth: n})
	}
	return append(l, api.Pass{}, api.Pass{From: 5, To: 5}, api.Pass{From: 5, To: 4}, api.Pass{From: api.MaxTime, To: api.MaxTime}, api.Pass{From: api.MaxTime, To: api.MaxTime + 1})
}

func TestChooseRefuses(t *testing.T) {
	good := []api.Pass{{To: 1, Worth: 1}, {From: 5, To: 9, Worth: 7}}
	for _, gap := range far(0, api.MaxGap) {
		notChosen(t, nil, gap, api.ErrRange)
		notChosen(t, good, gap, api.ErrRange)
	}
	full := slices.Repeat(good, api.MaxPasses/2)
	for _, p := range wrongPasses() {
		notChosen(t, []api.Pass{p}, 0, api.ErrRange)
		for i := range 3 {
			notChosen(t, slices.Insert(slices.Clone(good), i, p), 3, api.ErrRange)
		}
		notChosen(t, append(slices.Clone(full[1:]), p), 0, api.ErrRange)
		notChosen(t, append(slices.Clone(full), p), 0, api.ErrSize)
		notChosen(t, append(slices.Clone(full), p), -1, api.ErrSize)
	}
	chosen(t, full, 0, choice{[]int{0, 1}, 8})
	notChosen(t, append(slices.Clone(full), good[0]), 0, api.ErrSize)
	notChosen(t, slices.Repeat(good, 50000), api.MaxGap+1, api.ErrSize)
}
