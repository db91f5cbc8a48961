package sequence

import (
	"slices"

	"farhail/api"
)

// whole is a sequence that has been read, and its work, which no book tells.
type whole struct {
	api.Seq
	work int
}

// reader of a text: the token at which it stands, and the byte behind that; how many things that nest are around it; the sequences that are whole, and what the one at hand needs.
type reader struct {
	text  string
	names []string
	now   token
	next  int
	depth int
	done  []whole
	needs map[string]int
}

// book of the whole text. What is wrong with it gives up by a panic of an api.Fault.
func (r *reader) book() api.Book {
	for r.step(); r.now.kind != ending; {
		r.done = append(r.done, r.sequence())
	}
	var b api.Book
	for _, s := range r.done {
		b.Seqs = append(b.Seqs, s.Seq)
	}
	return b
}

func (r *reader) step() { r.now, r.next = tokenAt(r.text, r.next) }

// ask gives up at the token, if what it asks does not hold.
func (r *reader) ask(holds bool, code api.Errno) {
	if !holds {
		panic(api.Fault{Code: code, At: r.now.at})
	}
}

// sees: is the token one of these reserved words and signs?
func (r *reader) sees(texts ...string) bool {
	return r.now.kind == fixed && slices.Contains(texts, r.now.text)
}

// pass these reserved words and signs, one behind the other.
func (r *reader) pass(texts ...string) {
	for _, s := range texts {
		r.ask(r.sees(s), api.ErrForm)
		r.step()
	}
}

// name at which it stands: not yet passed, since more may be asked of it.
func (r *reader) name() string {
	r.ask(r.now.kind == naming, api.ErrForm)
	return r.now.text
}

// number from least to most.
func (r *reader) number(least, most int) int {
	r.ask(r.now.kind == counted, api.ErrForm)
	n := r.now.n
	r.ask(least <= n && n <= most, api.ErrRange)
	r.step()
	return n
}

// variable: its place.
func (r *reader) variable() int {
	at := slices.Index(r.names, r.name())
	r.ask(at >= 0, api.ErrName)
	r.step()
	return at
}

// called: the place of the sequence at whose name it stands; not yet passed.
func (r *reader) called() int {
	at := r.find(r.name())
	r.ask(at >= 0, api.ErrName)
	return at
}

// find the place of a sequence that is whole; below 0, if there is none.
func (r *reader) find(name string) int {
	return slices.IndexFunc(r.done, func(s whole) bool { return s.Name == name })
}

// lacks: is this no need of the sequence at hand?
func (r *reader) lacks(need string) bool {
	_, there := r.needs[need]
	return !there
}

func (r *reader) sequence() whole {
	r.ask(r.sees("SEQUENCE"), api.ErrForm)
	r.ask(len(r.done) < api.MaxSeqs, api.ErrSize)
	r.step()
	var s whole
	s.Name = r.name()
	r.ask(r.find(s.Name) < 0, api.ErrTwice)
	r.step()
	r.pass("LEVEL")
	s.Level = r.number(0, api.MaxLevel)
	r.pass("LIMIT")
	s.Limit = r.number(1, api.MaxTicks)
	s.Needs = r.needed()
	r.pass(":")
	l := r.list()
	r.pass("END")
	r.ask(r.sees(";"), api.ErrForm)
	s.Moves, s.Long, s.work = l.moves(nil), l.long(), l.work()
	r.ask(len(s.Moves) <= api.MaxMoves, api.ErrSize)
	r.ask(s.Long < s.Limit && s.work <= api.MaxWork, api.ErrSlow)
	r.step()
	return s
}

// needed: what the sequence at hand needs.
func (r *reader) needed() []string {
	r.needs = map[string]int{}
	var l []string
	if !r.sees("NEEDS") {
		return l
	}
	for more := true; more; more = r.sees(",") {
		r.step()
		need := r.name()
		r.ask(r.lacks(need), api.ErrTwice)
		r.needs[need] = len(l)
		l = append(l, need)
		r.step()
	}
	return l
}

// list: statements, as long as there are some.
func (r *reader) list() list {
	var l list
	for s := r.statement(); s != nil; s = r.statement() {
		l = append(l, s)
	}
	return l
}

// statement at which it stands; nil, if none begins here.
func (r *reader) statement() statement {
	switch {
	case r.now.kind == naming:
		return r.keep()
	case r.sees("WAIT"):
		return r.wait()
	case r.sees("SEND"):
		return r.send()
	case r.sees("IF"):
		return r.choice()
	case r.sees("REPEAT"):
		return r.rounds()
	case r.sees("UNTIL"):
		return r.until()
	case r.sees("CALL"):
		return r.call()
	case r.sees("START"):
		return r.launch()
	case r.sees("STOP"):
		r.pass("STOP", ";")
		return instant{api.Move{Do: api.Halt}}
	}
	return nil
}

func (r *reader) keep() statement {
	at := r.variable()
	r.pass(":=")
	sum := r.sum()
	r.pass(";")
	return instant{api.Move{Do: api.Keep, A: at, Sums: [][]int{sum}}}
}

func (r *reader) wait() statement {
	r.step()
	ticks := r.number(1, api.MaxRest)
	r.pass(";")
	return wait{ticks}
}

func (r *reader) send() statement {
	r.step()
	name := r.name()
	r.step()
	var sums [][]int
	if r.sees("(") {
		sums = r.arguments()
	}
	r.pass(";")
	return instant{api.Move{Do: api.Say, Name: name, Sums: sums}}
}

func (r *reader) arguments() [][]int {
	var sums [][]int
	for more := true; more; more = r.sees(",") {
		r.step()
		// A token that begins no argument is none too many: it is of a wrong form.
		r.ask(len(sums) < api.MaxArgs || !r.beginsSum(), api.ErrSize)
		sums = append(sums, r.sum())
	}
	r.pass(")")
	return sums
}

// room: may what nests begin here?
func (r *reader) room() { r.ask(r.depth < api.MaxNest, api.ErrSize) }

func (r *reader) choice() statement {
	r.room()
	r.step()
	sum := r.sum()
	r.pass("THEN")
	r.depth++
	then := r.list()
	other := r.other()
	r.depth--
	r.pass("END", ";")
	return choice{sum, then, other}
}

func (r *reader) rounds() statement {
	r.room()
	r.step()
	n := r.number(1, api.MaxRounds)
	r.pass(":")
	r.depth++
	l := r.list()
	r.depth--
	r.pass("END", ";")
	return rounds{n, l}
}

func (r *reader) until() statement {
	r.room()
	r.step()
	sum := r.sum()
	r.pass("WITHIN")
	ticks := r.number(1, api.MaxRest)
	r.depth++
	other := r.other()
	r.depth--
	r.pass("END", ";")
	return until{sum, ticks, other}
}

// other: ELSE and its list, if it is there.
func (r *reader) other() other {
	if !r.sees("ELSE") {
		return other{}
	}
	r.step()
	return other{true, r.list()}
}

func (r *reader) call() statement {
	r.step()
	at := r.called()
	s := r.done[at]
	r.ask(!slices.ContainsFunc(s.Needs, r.lacks), api.ErrKind)
	r.step()
	r.pass(";")
	return call{at, s.Long, s.work}
}

func (r *reader) launch() statement {
	r.step()
	at := r.called()
	r.step()
	r.pass(";")
	return instant{api.Move{Do: api.Launch, A: at}}
}
