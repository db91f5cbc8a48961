package sequence

import "farhail/api"

// enough: lists that are longer, or more work, count as this, so that no cost leaves the numbers, however loops are nested.
const enough = 1_000_000_000

// statement: what it becomes, put behind the moves ahead of it; how many ticks it takes, and how many moves it does, at most.
type statement interface {
	moves(ahead []api.Move) []api.Move
	long() int
	work() int
}

// list of statements, which is one, too.
type list []statement

func (l list) moves(ahead []api.Move) []api.Move {
	for _, s := range l {
		ahead = s.moves(ahead)
	}
	return ahead
}

func (l list) long() int {
	n := 0
	for _, s := range l {
		n = min(n+s.long(), enough)
	}
	return n
}

func (l list) work() int {
	n := 0
	for _, s := range l {
		n = min(n+s.work(), enough)
	}
	return n
}

// other is ELSE with its list, where it is there: a jump past the list stands ahead of that.
type other struct {
	there bool
	list  list
}

// jump: how many moves it is.
func (o other) jump() int {
	if o.there {
		return 1
	}
	return 0
}

func (o other) moves(ahead []api.Move) []api.Move {
	if !o.there {
		return ahead
	}
	at := len(ahead)
	l := o.list.moves(append(ahead, api.Move{Do: api.Jump}))
	l[at].A = len(l)
	return l
}

func (o other) long() int { return o.list.long() }

func (o other) work() int { return o.jump() + o.list.work() }

// instant is one move that takes no tick: SEND, :=, START, STOP.
type instant struct{ move api.Move }

func (s instant) moves(ahead []api.Move) []api.Move { return append(ahead, s.move) }

func (s instant) long() int { return 0 }

func (s instant) work() int { return 1 }

// wait is WAIT.
type wait struct{ ticks int }

func (s wait) moves(ahead []api.Move) []api.Move {
	return append(ahead, api.Move{Do: api.Rest, N: s.ticks})
}

func (s wait) long() int { return s.ticks }

func (s wait) work() int { return 1 }

// choice is IF.
type choice struct {
	sum   []int
	then  list
	other other
}

func (s choice) moves(ahead []api.Move) []api.Move {
	at := len(ahead)
	l := s.then.moves(append(ahead, api.Move{Do: api.Skip, Sums: [][]int{s.sum}}))
	l[at].A = len(l) + s.other.jump()
	return s.other.moves(l)
}

func (s choice) long() int { return max(s.then.long(), s.other.long()) }

// work: the jump counts whichever list is the greater one.
func (s choice) work() int {
	return 1 + s.other.jump() + max(s.then.work(), s.other.list.work())
}

// rounds is REPEAT.
type rounds struct {
	n    int
	list list
}

func (s rounds) moves(ahead []api.Move) []api.Move {
	l := append(ahead, api.Move{Do: api.Loop, N: s.n})
	first := len(l)
	return append(s.list.moves(l), api.Move{Do: api.Back, A: first})
}

func (s rounds) long() int { return s.n * s.list.long() }

func (s rounds) work() int { return 1 + s.n*(1+s.list.work()) }

// until is UNTIL.
type until struct {
	sum   []int
	ticks int
	other other
}

func (s until) moves(ahead []api.Move) []api.Move {
	behind := len(ahead) + 1 + s.other.jump()
	l := append(ahead, api.Move{Do: api.Watch, A: behind, N: s.ticks, Sums: [][]int{s.sum}})
	return s.other.moves(l)
}

func (s until) long() int { return s.ticks + s.other.long() }

func (s until) work() int { return 1 + s.ticks + s.other.work() }

// call is CALL: of the sequence at a place, with the costs of that.
type call struct{ at, ticks, did int }

func (s call) moves(ahead []api.Move) []api.Move {
	return append(ahead, api.Move{Do: api.Call, A: s.at})
}

func (s call) long() int { return s.ticks }

func (s call) work() int { return 1 + s.did }
