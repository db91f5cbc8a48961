package passes_test

import (
	"math/rand"
	"slices"
	"testing"

	"farhail/api"
	"farhail/passes"
)

// room: how many bytes can go in a tick.
func room(w []api.Window, tick int) int {
	n := 0
	for _, x := range w {
		if x.From <= tick && tick < x.To {
			n += x.Rate
		}
	}
	return n
}

// slowShare: tick by tick, each time the job that is next is looked for among all.
func slowShare(w []api.Window, jobs []api.Job) []int {
	gone, left := make([]int, len(jobs)), make([]int, len(jobs))
	for i, j := range jobs {
		gone[i], left[i] = -1, j.Bytes
		if j.Bytes == 0 {
			gone[i] = j.From
		}
	}
	for tick := range api.MaxSpan {
		for n := room(w, tick); n > 0; {
			next := -1
			for i, j := range jobs {
				if left[i] > 0 && j.From <= tick && (next < 0 || j.By < jobs[next].By) {
					next = i
				}
			}
			if next < 0 {
				break
			}
			bytes := min(n, left[next])
			n, left[next] = n-bytes, left[next]-bytes
			if left[next] == 0 {
				gone[next] = tick + 1
			}
		}
	}
	return gone
}

// shared: does Share tell that, and does Fits?
func shared(t *testing.T, w []api.Window, jobs []api.Job, fits bool, want ...int) {
	t.Helper()
	l, e := passes.Share(w, jobs)
	if e != api.OK || !slices.Equal(l, want) {
		t.Errorf("%v, %v: %v %v, not %v", w[:min(len(w), 20)], jobs[:min(len(jobs), 20)], l, e, want)
	}
	if yes, e := passes.Fits(w, jobs); e != api.OK || yes != fits {
		t.Errorf("%v, %v: %v %v, not %v", w[:min(len(w), 20)], jobs[:min(len(jobs), 20)], yes, e, fits)
	}
}

// drawnShare: windows and jobs within so many ticks, with rates and bytes up to so many.
func drawnShare(r *rand.Rand, ticks, windows, rate, jobs, bytes int) (w []api.Window, l []api.Job) {
	for range windows {
		from := r.Intn(ticks + 1)
		w = append(w, api.Window{From: from, To: from + r.Intn(ticks-from+1), Rate: r.Intn(rate + 1)})
	}
	for range jobs {
		from := r.Intn(ticks + 1)
		l = append(l, api.Job{From: from, By: from + r.Intn(ticks-from+1), Bytes: r.Intn(bytes + 1)})
	}
	return w, l
}

// inTime: are all jobs gone by then?
func inTime(gone []int, jobs []api.Job) bool {
	for i, j := range jobs {
		if gone[i] < 0 || gone[i] > j.By {
			return false
		}
	}
	return true
}

func TestShareExample(t *testing.T) {
	w := []api.Window{{From: 0, To: 10, Rate: 2}}
	shared(t, w, []api.Job{{By: 10, Bytes: 6}, {From: 1, By: 3, Bytes: 4}}, true, 5, 3)
	shared(t, w, []api.Job{{By: 10, Bytes: 6}, {From: 1, By: 2, Bytes: 4}}, false, 5, 3)
}

// TestShareDrawn: as the slow way does it.
func TestShareDrawn(t *testing.T) {
	r := rand.New(rand.NewSource(133))
	for range 400 {
		w, jobs := drawnShare(r, 1+r.Intn(60), r.Intn(7), r.Intn(6), r.Intn(9), r.Intn(25))
		want := slowShare(w, jobs)
		shared(t, w, jobs, inTime(want, jobs), want...)
	}
	for range 8 {
		w, jobs := drawnShare(r, api.MaxSpan, api.MaxPasses, 1+r.Intn(50), api.MaxJobs, api.MaxBytes)
		want := slowShare(w, jobs)
		shared(t, w, jobs, inTime(want, jobs), want...)
	}
}

// carrier: ticks with room, and which job's bytes go in them.
type carrier struct {
	jobs  []api.Job
	room  []int
	taken [][]int // of each tick the jobs of its bytes
	been  []bool
}

// put a byte of a job into a tick; others make way for it, if they can.
func (c *carrier) put(job int) bool {
	for tick := c.jobs[job].From; tick < c.jobs[job].By; tick++ {
		if c.been[tick] {
			continue
		}
		c.been[tick] = true
		if len(c.taken[tick]) < c.room[tick] {
			c.taken[tick] = append(c.taken[tick], job)
			return true
		}
		for k, other := range c.taken[tick] {
			if c.put(other) {
				c.taken[tick][k] = job
				return true
			}
		}
	}
	return false
}

// anyWay: can all jobs be gone in time in some way? Byte by byte, each may be moved as long as that helps.
func anyWay(w []api.Window, jobs []api.Job, ticks int) bool {
	c := carrier{jobs: jobs, taken: make([][]int, ticks)}
	for tick := range ticks {
		c.room = append(c.room, room(w, tick))
	}
	for i, j := range jobs {
		for range j.Bytes {
			c.been = make([]bool, ticks)
			if !c.put(i) {
				return false
			}
		}
	}
	return true
}

// tooMuch: is there a stretch of time that has to take more than it can?
func tooMuch(w []api.Window, jobs []api.Job, ticks int) bool {
	for from := range ticks + 1 {
		can := 0
		for to := from; to <= ticks; to++ {
			must := 0
			for _, j := range jobs {
				if j.From >= from && j.By <= to {
					must += j.Bytes
				}
			}
			if must > can {
				return true
			}
			can += room(w, to)
		}
	}
	return false
}

// TestFitsDrawn: just if some way has all gone in time; just if no stretch has to take too much.
func TestFitsDrawn(t *testing.T) {
	r := rand.New(rand.NewSource(134))
	fit := 0
	const draws = 3000
	for range draws {
		ticks := 1 + r.Intn(15)
		w, jobs := drawnShare(r, ticks, r.Intn(6), 1+r.Intn(5), r.Intn(6), 1+r.Intn(8))
		yes, e := passes.Fits(w, jobs)
		if e != api.OK || yes != anyWay(w, jobs, ticks) || yes == tooMuch(w, jobs, ticks) {
			t.Fatal(w, jobs, yes, e)
		}
		gone, _ := passes.Share(w, jobs)
		if yes != inTime(gone, jobs) {
			t.Fatal(w, jobs, gone, yes)
		}
		if yes {
			fit++
		}
	}
	if fit < draws/10 || fit > draws*9/10 {
		t.Error(fit, "of", draws, "fit")
	}
}

// TestShareWindows: ticks from From up to To - 1, rates that stand together, and what can't carry anything.
func TestShareWindows(t *testing.T) {
	job := []api.Job{{By: 20, Bytes: 6}}
	for from := range 10 {
		shared(t, []api.Window{{From: from, To: from + 3, Rate: 2}}, job, true, from+3)
		shared(t, []api.Window{{From: from, To: from + 2, Rate: 2}}, job, false, -1)
		shared(t, []api.Window{{From: from, To: from + 1, Rate: 5}, {From: 15, To: 16, Rate: 1}}, job, true, 16)
		shared(t, []api.Window{{From: from, To: from + 2, Rate: 1}, {From: from, To: from + 2, Rate: 2}}, job, true, from+2)
		shared(t, []api.Window{{From: from + 1, To: from + 3, Rate: 2}, {From: from, To: from + 2, Rate: 1}, {From: from + 1, To: from + 2, Rate: 2}}, job, true, from+2)
		shared(t, []api.Window{{From: from, To: from, Rate: 9}, {From: from, To: 20}}, job, false, -1)
	}
	shared(t, nil, job, false, -1)
	shared(t, nil, nil, true)
	shared(t, []api.Window{{To: 5, Rate: 5}}, nil, true)
}

// TestShareTurns: which job goes first.
func TestShareTurns(t *testing.T) {
	w := []api.Window{{To: 100, Rate: 1}}
	// The least By, wherever it stands in the list; what comes later may go ahead of what has begun.
	shared(t, w, []api.Job{{By: 9, Bytes: 3}, {By: 8, Bytes: 3}, {By: 10, Bytes: 3}}, true, 6, 3, 9)
	shared(t, w, []api.Job{{By: 9, Bytes: 3}, {From: 1, By: 8, Bytes: 3}}, true, 6, 4)
	// Of the same By the first in the list, though it came later, or has more bytes.
	shared(t, w, []api.Job{{By: 9, Bytes: 3}, {By: 9, Bytes: 1}}, true, 3, 4)
	shared(t, w, []api.Job{{From: 2, By: 9, Bytes: 3}, {By: 9, Bytes: 4}}, true, 5, 7)
	// What is late goes on, and ahead of what is not.
	shared(t, w, []api.Job{{By: 9, Bytes: 5}, {By: 2, Bytes: 4}}, false, 9, 4)
	shared(t, w, []api.Job{{From: 3, By: 6, Bytes: 2}, {By: 1, Bytes: 5}}, false, 7, 5)
	// What is left of a tick goes to the next ones.
	wide := []api.Window{{To: 2, Rate: 5}, {From: 7, To: 8, Rate: 1}}
	shared(t, wide, []api.Job{{By: 20, Bytes: 2}, {By: 10, Bytes: 2}, {By: 15, Bytes: 2}, {By: 30, Bytes: 5}}, true, 2, 1, 1, 8)
	shared(t, wide, []api.Job{{By: 20, Bytes: 2}, {By: 10, Bytes: 2}, {By: 15, Bytes: 2}, {By: 30, Bytes: 6}}, false, 2, 1, 1, -1)
	// A tick's room is not kept for later.
	shared(t, wide, []api.Job{{From: 1, By: 20, Bytes: 6}}, true, 8)
	shared(t, wide, []api.Job{{From: 2, By: 20, Bytes: 2}, {From: 2, By: 19, Bytes: 1}}, false, -1, 8)
}

// TestShareNothing: a job without bytes is gone when it comes, whatever windows there are.
func TestShareNothing(t *testing.T) {
	for _, w := range [][]api.Window{nil, {{To: 3, Rate: 1}}, {{From: 5, To: api.MaxSpan, Rate: 1}}} {
		shared(t, w, []api.Job{{}, {From: 4, By: 4}, {From: 1, By: 9}, {From: api.MaxSpan, By: api.MaxSpan}}, true, 0, 4, 1, api.MaxSpan)
	}
	shared(t, []api.Window{{To: 9, Rate: 1}}, []api.Job{{From: 4, By: 4, Bytes: 1}, {From: 3, By: 4, Bytes: 1}}, false, 5, 4)
}

// TestShareEnds: at the limits of what may be.
func TestShareEnds(t *testing.T) {
	const end = api.MaxSpan
	last := []api.Window{{From: end - 1, To: end, Rate: 1}, {From: end, To: end, Rate: api.MaxBytes}}
	shared(t, last, []api.Job{{By: end, Bytes: 1}}, true, end)
	shared(t, last, []api.Job{{From: end - 1, By: end, Bytes: 1}}, true, end)
	shared(t, last, []api.Job{{By: end - 1, Bytes: 1}}, false, end)
	shared(t, last, []api.Job{{By: end, Bytes: 2}}, false, -1)
	shared(t, last, []api.Job{{From: end, By: end, Bytes: 1}}, false, -1)
	whole := slices.Repeat([]api.Window{{To: end, Rate: api.MaxBytes}}, api.MaxPasses)
	heavy := slices.Repeat([]api.Job{{From: 7, By: 8, Bytes: api.MaxBytes}}, api.MaxJobs)
	shared(t, whole, heavy, true, slices.Repeat([]int{8}, api.MaxJobs)...)
	want := make([]int, api.MaxJobs)
	for i := range want {
		want[i] = 8 + i
	}
	shared(t, whole[:1], heavy, false, want...)
	shared(t, []api.Window{{To: end, Rate: 50}}, []api.Job{{By: end, Bytes: api.MaxBytes}}, true, end)
	shared(t, []api.Window{{To: end, Rate: 49}}, []api.Job{{By: end, Bytes: api.MaxBytes}}, false, -1)
}

// notShared: is that refused so?
func notShared(t *testing.T, w []api.Window, jobs []api.Job, want api.Errno) {
	t.Helper()
	if l, e := passes.Share(w, jobs); e != want || len(l) != 0 {
		t.Errorf("%v, %v: %v %v, not %v", w[:min(len(w), 20)], jobs[:min(len(jobs), 20)], l, e, want)
	}
	if yes, e := passes.Fits(w, jobs); e != want || yes {
		t.Errorf("%v, %v: %v %v, not %v", w[:min(len(w), 20)], jobs[:min(len(jobs), 20)], yes, e, want)
	}
}

// wrongSpans: from, to, and a number of bytes, of which one may not be.
func wrongSpans() (l [][3]int) {
	for _, n := range far(0, api.MaxSpan) {
		l = append(l, [3]int{n, api.MaxSpan, 1}, [3]int{n, n, 0}, [3]int{0, n, 1}, [3]int{9, n, 0})
	}
	for _, n := range far(0, api.MaxBytes) {
		l = append(l, [3]int{0, 9, n}, [3]int{9, 9, n})
	}
	return append(l, [3]int{9, 8, 0}, [3]int{1, 0, 1}, [3]int{api.MaxSpan, 0, 1}, [3]int{api.MaxSpan, api.MaxSpan - 1, 0})
}

func TestShareRefuses(t *testing.T) {
	goodW, goodJ := api.Window{To: 9, Rate: 5}, api.Job{By: 9, Bytes: 1}
	manyW, manyJ := slices.Repeat([]api.Window{goodW}, api.MaxPasses), slices.Repeat([]api.Job{goodJ}, api.MaxJobs)
	for _, x := range wrongSpans() {
		w, j := api.Window{From: x[0], To: x[1], Rate: x[2]}, api.Job{From: x[0], By: x[1], Bytes: x[2]}
		notShared(t, []api.Window{w}, nil, api.ErrRange)
		notShared(t, nil, []api.Job{j}, api.ErrRange)
		notShared(t, []api.Window{goodW, w}, []api.Job{goodJ}, api.ErrRange)
		notShared(t, []api.Window{w, goodW}, []api.Job{goodJ}, api.ErrRange)
		notShared(t, []api.Window{goodW}, []api.Job{goodJ, j}, api.ErrRange)
		notShared(t, []api.Window{goodW}, []api.Job{j, goodJ}, api.ErrRange)
		notShared(t, append(slices.Clone(manyW[1:]), w), append(slices.Clone(manyJ[1:]), j), api.ErrRange)
		notShared(t, append(slices.Clone(manyW), w), []api.Job{j}, api.ErrSize)
		notShared(t, []api.Window{w}, append(slices.Clone(manyJ), j), api.ErrSize)
	}
	shared(t, manyW, manyJ, true, slices.Repeat([]int{1}, api.MaxJobs)...)
	notShared(t, append(slices.Clone(manyW), goodW), manyJ, api.ErrSize)
	notShared(t, manyW, append(slices.Clone(manyJ), goodJ), api.ErrSize)
	notShared(t, slices.Repeat(manyW, 100), nil, api.ErrSize)
	notShared(t, nil, slices.Repeat(manyJ, 100), api.ErrSize)
}
