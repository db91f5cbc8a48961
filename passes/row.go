package passes

import (
	"cmp"
	"slices"

	"farhail/api"
)

// row of passes that are taken one behind the other: the first one's place, and the row behind it; of all of them the worth, and how many they are. The empty row is the zero one.
type row struct {
	place int
	rest  *row
	worth int
	count int
}

// bestRow of all that may be taken together.
func bestRow(l []api.Pass, gap int) *row {
	var rows []*row // the best ones that begin with each pass so far
	best := func(may func(p api.Pass) bool) *row {
		top := &row{}
		for _, r := range rows {
			if may(l[r.place]) && r.better(top) {
				top = r
			}
		}
		return top
	}
	for _, i := range lastFirst(l) {
		rest := best(func(p api.Pass) bool { return mayFollow(l[i], p, gap) })
		rows = append(rows, &row{place: i, rest: rest, worth: l[i].Worth + rest.worth, count: rest.count + 1})
	}
	return best(func(api.Pass) bool { return true })
}

// lastFirst: the places of passes, so that what may follow a pass stands ahead of it.
func lastFirst(l []api.Pass) []int {
	order := make([]int, len(l))
	for i := range order {
		order[i] = i
	}
	slices.SortFunc(order, func(a, b int) int { return cmp.Compare(l[b].From, l[a].From) })
	return order
}

// mayFollow: may a pass be taken right behind another one?
func mayFollow(first, then api.Pass, gap int) bool {
	if first.Station == then.Station {
		gap = 0
	}
	return first.To+gap <= then.From
}

// better: is a row to be taken rather than one that begins with another pass? So of rows that are alike the places of the first ones decide.
func (r *row) better(than *row) bool {
	return cmp.Or(cmp.Compare(than.worth, r.worth), cmp.Compare(r.count, than.count), cmp.Compare(r.place, than.place)) < 0
}

// places in the order of time.
func (r *row) places() []int {
	l := make([]int, 0, r.count)
	for ; r.count > 0; r = r.rest {
		l = append(l, r.place)
	}
	return l
}
