package sequence

import (
	"math"

	"farhail/api"
)

// fitValues: does each fit into 32 bits with a sign?
func fitValues(values []int) bool {
	for _, n := range values {
		if !within(n, math.MinInt32, math.MaxInt32) {
			return false
		}
	}
	return true
}

// then is how a task goes on behind a move.
type then int

// The ways.
const (
	onwards then = iota
	nextTick
	never
)

// doer does the moves of a book's sequences, and tells in a round what comes of them.
type doer struct {
	book  api.Book
	round api.Round
}

// tick of a task: has it ended?
func (d *doer) tick(t *api.Task) bool {
	t.Age = min(t.Age+1, api.MaxTicks)
	if t.Left > 0 {
		t.Left--
	}
	if t.Left > 0 {
		return false
	}
	how := onwards
	for how == onwards {
		how = d.next(t)
	}
	return how == never
}

// next: the move at which a task stands is done; or, where there is none any more, its place is left.
func (d *doer) next(t *api.Task) then {
	last := len(t.Places) - 1
	if last < 0 {
		return never
	}
	p := &t.Places[last]
	moves := d.book.Seqs[p.Seq].Moves
	if p.At == len(moves) {
		t.Places = t.Places[:last]
		return onwards
	}
	m := moves[p.At]
	if m.Do == api.Watch {
		return d.watch(t, p, m)
	}
	p.At++
	return d.do(t, p, m)
}

// watch: the task stands at its move till it goes on.
func (d *doer) watch(t *api.Task, p *api.Place, m api.Move) then {
	switch {
	case d.value(m, 0) != 0:
		t.Since, p.At = 0, p.At+1
	case t.Since == m.N:
		t.Since, p.At = 0, m.A
	default:
		t.Since++
		return nextTick
	}
	return onwards
}

// do a move, behind which its place stands already.
func (d *doer) do(t *api.Task, p *api.Place, m api.Move) then {
	switch m.Do {
	case api.Rest:
		t.Left = m.N
		return nextTick
	case api.Say:
		d.say(t.Places[0].Seq, m)
	case api.Keep:
		d.round.Values[m.A] = d.value(m, 0)
	case api.Skip:
		if d.value(m, 0) == 0 {
			p.At = m.A
		}
	case api.Jump:
		p.At = m.A
	case api.Loop:
		p.Loops = append(p.Loops, m.N)
	case api.Back:
		endRound(p, m.A)
	case api.Call:
		t.Places = append(t.Places, api.Place{Seq: m.A})
	case api.Launch:
		d.round.Asked = append(d.round.Asked, m.A)
	case api.Halt:
		return never
	}
	return onwards
}

// value of one of a move's sums.
func (d *doer) value(m api.Move, i int) int { return valueOf(m.Sums[i], d.round.Values) }

// say a command of the task of a sequence.
func (d *doer) say(seq int, m api.Move) {
	var args []int
	for i := range m.Sums {
		args = append(args, d.value(m, i))
	}
	d.round.Said = append(d.round.Said, api.Said{Seq: seq, Name: m.Name, Args: args})
}

// endRound of the innermost loop: back to its first move, if there are more rounds.
func endRound(p *api.Place, first int) {
	last := len(p.Loops) - 1
	p.Loops[last]--
	if p.Loops[last] > 0 {
		p.At = first
		return
	}
	p.Loops = p.Loops[:last]
}
