package passes

import (
	"cmp"
	"container/heap"
	"slices"

	"farhail/api"
)

// never is when a job is gone whose last byte never goes.
const never = -1

// load is what is left of a job.
type load struct {
	place int
	from  int
	by    int
	left  int
}

// queue of loads that wait, as a heap: the one that goes next is its first.
type queue []load

func (q queue) Len() int { return len(q) }

func (q queue) Less(i, j int) bool {
	return cmp.Or(cmp.Compare(q[i].by, q[j].by), cmp.Compare(q[i].place, q[j].place)) < 0
}

func (q queue) Swap(i, j int) { q[i], q[j] = q[j], q[i] }

// Push a load, behind all others.
func (q *queue) Push(x any) { *q = append(*q, x.(load)) }

// Pop the last one.
func (q *queue) Pop() any {
	last := len(*q) - 1
	x := (*q)[last]
	*q = (*q)[:last]
	return x
}

// rooms: how many bytes can go in each tick, up to the end of the last window.
func rooms(w []api.Window) []int {
	end := 0
	for _, x := range w {
		end = max(end, x.To)
	}
	l := make([]int, end+1)
	for _, x := range w {
		l[x.From] += x.Rate
		l[x.To] -= x.Rate
	}
	// What stood there is by how much a tick has more than the one ahead of it.
	for tick := range end {
		l[tick+1] += l[tick]
	}
	return l[:end]
}

// whenGone: of each job, if in each tick so many bytes can go.
func whenGone(most []int, jobs []api.Job) []int {
	gone := make([]int, len(jobs))
	for i, j := range jobs {
		gone[i] = never
		if j.Bytes == 0 {
			gone[i] = j.From
		}
	}
	coming, q := loads(jobs), &queue{}
	for tick, room := range most {
		for len(coming) > 0 && coming[0].from == tick {
			heap.Push(q, coming[0])
			coming = coming[1:]
		}
		q.send(room, func(place int) { gone[place] = tick + 1 })
	}
	return gone
}

// loads of the jobs that have bytes, in the order in which they come.
func loads(jobs []api.Job) []load {
	var l []load
	for i, j := range jobs {
		if j.Bytes > 0 {
			l = append(l, load{place: i, from: j.From, by: j.By, left: j.Bytes})
		}
	}
	slices.SortStableFunc(l, func(a, b load) int { return cmp.Compare(a.from, b.from) })
	return l
}

// send what there is room for, and tell the places of the jobs that are gone by that.
func (q *queue) send(room int, tell func(place int)) {
	for len(*q) > 0 && room > 0 {
		next := &(*q)[0]
		// The order hangs on nothing that is left, so the heap stays one.
		n := min(room, next.left)
		next.left -= n
		room -= n
		if next.left == 0 {
			tell(heap.Pop(q).(load).place)
		}
	}
}
