package sequence

import (
	"slices"

	"farhail/api"
)

func within(n, least, most int) bool { return least <= n && n <= most }

// ownSeq: the sequence that a task is.
func ownSeq(b api.Book, t api.Task) api.Seq { return b.Seqs[t.Places[0].Seq] }

// share: do two sequences need the same thing?
func share(a, b api.Seq) bool {
	return slices.ContainsFunc(a.Needs, func(need string) bool { return slices.Contains(b.Needs, need) })
}

func crewMayBe(b api.Book, c api.Crew) bool {
	if len(c.Tasks) > api.MaxTasks {
		return false
	}
	for i, t := range c.Tasks {
		if !taskMayBe(b, t) || !mayFollow(b, c.Tasks[:i], t) {
			return false
		}
	}
	return true
}

// mayFollow: may a task stand behind those that are ahead of it?
func mayFollow(b api.Book, ahead []api.Task, t api.Task) bool {
	own := ownSeq(b, t)
	for _, a := range ahead {
		s := ownSeq(b, a)
		if s.Name == own.Name || share(s, own) || s.Level < own.Level {
			return false
		}
	}
	return true
}

func taskMayBe(b api.Book, t api.Task) bool {
	return placesMayBe(b, t.Places) && within(t.Left, 0, api.MaxRest) &&
		within(t.Since, 0, longestWatch(b, t)) && within(t.Age, 0, api.MaxTicks)
}

// longestWatch: for how many ticks a task, whose places may be, can have watched.
func longestWatch(b api.Book, t api.Task) int {
	p := t.Places[len(t.Places)-1]
	moves := b.Seqs[p.Seq].Moves
	if t.Left > 0 || p.At == len(moves) || moves[p.At].Do != api.Watch {
		return 0
	}
	return moves[p.At].N
}

func placesMayBe(b api.Book, l []api.Place) bool {
	for i, p := range l {
		if !placeMayBe(b, p) || i > 0 && !calls(b, l[i-1], p.Seq) {
			return false
		}
	}
	return len(l) > 0
}

// calls: does a Call of a sequence stand right ahead of a place that may be?
func calls(b api.Book, p api.Place, seq int) bool {
	if p.At == 0 {
		return false
	}
	m := b.Seqs[p.Seq].Moves[p.At-1]
	return m.Do == api.Call && m.A == seq
}

func placeMayBe(b api.Book, p api.Place) bool {
	if !within(p.Seq, 0, len(b.Seqs)-1) {
		return false
	}
	moves := b.Seqs[p.Seq].Moves
	if !within(p.At, 0, len(moves)) {
		return false
	}
	return slices.EqualFunc(p.Loops, roundsAround(moves[:p.At]), func(left, n int) bool { return within(left, 1, n) })
}

// roundsAround: how many rounds the loops have, the outermost first, that begin in these moves and do not end there.
func roundsAround(moves []api.Move) []int {
	var l []int
	for _, m := range moves {
		switch m.Do {
		case api.Loop:
			l = append(l, m.N)
		case api.Back:
			l = l[:len(l)-1]
		}
	}
	return l
}

// crewOf: the same crew, in memory of its own.
func crewOf(c api.Crew) api.Crew {
	var own api.Crew
	for _, t := range c.Tasks {
		t.Places = slices.Clone(t.Places)
		for i := range t.Places {
			t.Places[i].Loops = slices.Clone(t.Places[i].Loops)
		}
		own.Tasks = append(own.Tasks, t)
	}
	return own
}
