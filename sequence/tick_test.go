package sequence_test

import (
	"fmt"
	"iter"
	"math"
	"reflect"
	"slices"
	"testing"

	"farhail/api"
	"farhail/sequence"
)

// The slow way to do sequences: their trees are gone along, and where a tick ends one waits for the next.

// world is what tasks share, and what they tell in a tick.
type world struct {
	names  []string
	seqs   []script
	values []int
	said   []api.Said
	asked  []int
}

// wrap a number round to 32 bits.
func wrap(n int) int { return (n+1<<31)&(1<<32-1) - 1<<31 }

func one(b bool) int {
	if b {
		return 1
	}
	return 0
}

func (w *world) value(e *expr) int {
	if e.op == 0 {
		if e.name != "" {
			return w.values[slices.Index(w.names, e.name)]
		}
		return e.n
	}
	a, b := w.value(e.l), 0
	if e.r != nil {
		b = w.value(e.r)
	}
	return [...]int{api.Plus: wrap(a + b), api.Minus: wrap(a - b), api.Times: wrap(a * b), api.Less: one(a < b), api.Most: one(a <= b), api.Same: one(a == b),
		api.Other: one(a != b), api.More: one(a > b), api.Least: one(a >= b), api.And: one(a != 0 && b != 0), api.Or: one(a != 0 || b != 0), api.Not: one(a == 0), api.Neg: wrap(-a)}[e.op]
}

// list of a task: has it come to its end (and not to a STOP)? Tick: waits for the next one.
func (w *world) list(l []tree, own int, tick func() bool) bool {
	for _, t := range l {
		if !w.tree(t, own, tick) {
			return false
		}
	}
	return true
}

func (w *world) tree(t tree, own int, tick func() bool) bool {
	place := slices.IndexFunc(w.seqs, func(s script) bool { return s.name == t.name })
	switch t.word {
	case "WAIT":
		for range t.n {
			if !tick() {
				return false
			}
		}
	case "SEND":
		x := api.Said{Seq: own, Name: t.name}
		for _, e := range t.args {
			x.Args = append(x.Args, w.value(e))
		}
		w.said = append(w.said, x)
	case "SET":
		w.values[slices.Index(w.names, t.name)] = w.value(t.args[0])
	case "IF":
		if w.value(t.args[0]) != 0 {
			return w.list(t.then, own, tick)
		}
		return w.list(t.other, own, tick)
	case "REPEAT":
		for range t.n {
			if !w.list(t.then, own, tick) {
				return false
			}
		}
	case "UNTIL":
		for watched := 0; w.value(t.args[0]) == 0; watched++ {
			if watched == t.n {
				return w.list(t.other, own, tick)
			}
			if !tick() {
				return false
			}
		}
	case "CALL":
		return w.list(w.seqs[place].list, own, tick)
	case "START":
		w.asked = append(w.asked, place)
	case "STOP":
		return false
	}
	return true
}

// goer is a task at work.
type goer struct {
	seq, age int
	next     func() (int, bool)
	stop     func()
}

func (w *world) goer(seq int) *goer {
	g := &goer{seq: seq}
	g.next, g.stop = iter.Pull(func(yield func(int) bool) {
		w.list(w.seqs[seq].list, seq, func() bool { return yield(0) })
	})
	return g
}

// start a sequence, by the words of the chapter.
func (w *world) start(crew []*goer, name string) ([]*goer, []int, api.Errno) {
	at := slices.IndexFunc(w.seqs, func(s script) bool { return s.name == name })
	if at < 0 {
		return crew, nil, api.ErrName
	}
	own := w.seqs[at]
	inWay := func(g *goer) bool {
		for _, a := range w.seqs[g.seq].needs {
			if slices.Contains(own.needs, a) {
				return true
			}
		}
		return false
	}
	var stopped []int
	for _, g := range crew {
		if g.seq == at {
			return crew, nil, api.ErrTwice
		}
	}
	for _, g := range crew {
		if inWay(g) && w.seqs[g.seq].level >= own.level {
			return crew, nil, api.ErrShut
		}
		if inWay(g) {
			stopped = append(stopped, g.seq)
		}
	}
	if len(crew)-len(stopped) >= api.MaxTasks {
		return crew, nil, api.ErrFull
	}
	var ahead, behind []*goer
	for _, g := range crew {
		switch {
		case inWay(g):
			g.stop()
		case w.seqs[g.seq].level >= own.level:
			ahead = append(ahead, g)
		default:
			behind = append(behind, g)
		}
	}
	return append(append(ahead, w.goer(at)), behind...), stopped, api.OK
}

// same: are these the tasks of a crew?
func same(c api.Crew, l []*goer) bool {
	return slices.EqualFunc(c.Tasks, l, func(k api.Task, g *goer) bool {
		return len(k.Places) > 0 && k.Places[0].Seq == g.seq && k.Age == g.age
	})
}

// flight of a book's sequences, by both ways, for so many ticks.
func flight(t *testing.T, d *drawer, ticks int) (ended int) {
	l, text, b := d.loads(7)
	w := &world{names: d.names, seqs: l, values: []int{d.Intn(5), 0, -1}}
	var c api.Crew
	var crew []*goer
	for range ticks {
		for range d.Intn(3) {
			name := []string{"s0", "s1", "s2", "s3", "s4", "s5", "s6", "s7"}[d.Intn(8)]
			n, stopped, e := sequence.Start(text, d.names, c, name)
			more, gone, why := w.start(crew, name)
			if crew = more; e != why || !slices.Equal(stopped, gone) || !same(n, crew) {
				t.Fatalf("%q: %v: start %s: %v %v %v; wanted %v %v", text, c, name, n, stopped, e, gone, why)
			}
			c = n
		}
		w.values[d.Intn(3)] = []int{0, 1, d.Intn(9), math.MinInt32, math.MaxInt32}[d.Intn(5)]
		r := sequence.Tick(text, d.names, c, w.values)
		w.said, w.asked = nil, nil
		var left []*goer
		var over []int
		for _, g := range crew {
			g.age++
			if _, goes := g.next(); goes {
				left = append(left, g)
			} else {
				over = append(over, g.seq)
			}
			if g.age > l[g.seq].limit || g.age > b.Seqs[g.seq].Long+1 {
				t.Fatalf("%q: task %d is too old: %d", text, g.seq, g.age)
			}
		}
		crew, ended = left, ended+len(over)
		if r.Code != api.OK || !same(r.Crew, crew) || !slices.Equal(r.Values, w.values) || !slices.Equal(r.Asked, w.asked) || !slices.Equal(r.Ended, over) || fmt.Sprint(r.Said) != fmt.Sprint(w.said) {
			t.Fatalf("%q: %v: %v; wanted %v %v %v %v", text, c, r, w.values, w.said, w.asked, over)
		}
		if c = r.Crew; !slowMayBe(b, c) {
			t.Fatalf("%q: a crew that may not be: %v", text, c)
		}
	}
	for _, g := range crew {
		g.stop()
	}
	return ended
}

// TestFlights: sequences do what is written, tick by tick.
func TestFlights(t *testing.T) {
	d := newDrawer(115)
	ended := 0
	for range 700 {
		ended += flight(t, d, 25)
	}
	if ended < 1000 {
		t.Error(ended, "tasks have ended")
	}
}

// task with one place.
func task(seq, at, left, since, age int, loops ...int) api.Task {
	return api.Task{Places: []api.Place{{Seq: seq, At: at, Loops: loops}}, Left: left, Since: since, Age: age}
}

// TestExampleDone: the chapter's sequence, tick by tick, too cold till the end, or warm in the third tick.
func TestExampleDone(t *testing.T) {
	names := []string{"temp"}
	heat := func(n int) []api.Said { return []api.Said{{Name: "heat", Args: []int{n}}} }
	c, _, e := sequence.Start(warm, names, api.Crew{}, "warm")
	if e != api.OK || !reflect.DeepEqual(c, api.Crew{Tasks: []api.Task{task(0, 0, 0, 0, 0)}}) {
		t.Fatal(c, e)
	}
	warmed := c
	for i := range 10 {
		r := sequence.Tick(warm, names, c, []int{5})
		want := api.Round{Crew: api.Crew{Tasks: []api.Task{task(0, 1, 0, i+1, i+1)}}, Values: []int{5}}
		if i == 0 {
			want.Said = heat(1)
		}
		if !reflect.DeepEqual(r, want) {
			t.Fatalf("tick %d: %v; wanted %v", i, r, want)
		}
		if c = r.Crew; i == 1 {
			warmed = c
		}
	}
	r := sequence.Tick(warm, names, c, []int{-7})
	if want := (api.Round{Values: []int{-7}, Said: append([]api.Said{{Name: "alarm"}}, heat(0)...), Ended: []int{0}}); !reflect.DeepEqual(r, want) {
		t.Error(r)
	}
	r = sequence.Tick(warm, names, warmed, []int{6})
	if want := (api.Round{Values: []int{6}, Said: heat(0), Ended: []int{0}}); !reflect.DeepEqual(r, want) {
		t.Error(r)
	}
}

// TestTasks: how tasks stand behind a tick, move by move.
func TestTasks(t *testing.T) {
	const text = "SEQUENCE sub LEVEL 1 LIMIT 99: REPEAT 2: WAIT 2; END; END; " + // Loop Rest Back
		"SEQUENCE top LEVEL 1 LIMIT 99: REPEAT 3: REPEAT 2: a := a + 1; CALL sub; END; UNTIL a > 9 WITHIN 2 END; END; WAIT 1; END;" + // Loop Loop Keep Call Back Watch Back Rest
		"SEQUENCE none LEVEL 1 LIMIT 1: END; SEQUENCE deep LEVEL 1 LIMIT 99: CALL none; CALL sub; STOP; END; SEQUENCE deeper LEVEL 1 LIMIT 99: CALL deep; SEND never; END;"
	names := []string{"a"}
	places := func(left, since, age int, l ...api.Place) []api.Task {
		return []api.Task{{Places: l, Left: left, Since: since, Age: age}}
	}
	at := func(seq, at int, loops ...int) api.Place { return api.Place{Seq: seq, At: at, Loops: loops} }
	for _, c := range []struct {
		was  []api.Task
		a    int
		want []api.Task
		now  int
	}{
		{places(0, 0, 0, at(1, 0)), 0, places(2, 0, 1, at(1, 4, 3, 2), at(0, 2, 2)), 1},
		{places(2, 0, 1, at(1, 4, 3, 2), at(0, 2, 2)), 1, places(1, 0, 2, at(1, 4, 3, 2), at(0, 2, 2)), 1},
		{places(1, 0, 2, at(1, 4, 3, 2), at(0, 2, 2)), 1, places(2, 0, 3, at(1, 4, 3, 2), at(0, 2, 1)), 1},
		{places(1, 0, 4, at(1, 4, 3, 2), at(0, 2, 1)), 1, places(2, 0, 5, at(1, 4, 3, 1), at(0, 2, 2)), 2},
		{places(1, 0, 8, at(1, 4, 3, 1), at(0, 2, 1)), 2, places(0, 1, 9, at(1, 5, 3)), 2},
		{places(0, 1, 9, at(1, 5, 3)), 2, places(0, 2, 10, at(1, 5, 3)), 2},
		{places(0, 2, 10, at(1, 5, 3)), 2, places(2, 0, 11, at(1, 4, 2, 2), at(0, 2, 2)), 3},
		{places(0, 1, 9, at(1, 5, 3)), 10, places(2, 0, 10, at(1, 4, 2, 2), at(0, 2, 2)), 11},
		{places(0, 2, 50, at(1, 5, 1)), 2, places(1, 0, 51, at(1, 8)), 2},
		{places(1, 0, 51, at(1, 8)), 2, nil, 2},
		{places(0, 0, 51, at(1, 8)), 2, nil, 2},
		{places(0, 0, 51, at(1, 7)), 2, places(1, 0, 52, at(1, 8)), 2},
		{places(0, 0, 51, at(1, 3, 2, 1)), 2, places(2, 0, 52, at(1, 4, 2, 1), at(0, 2, 2)), 2},
		{places(9, 0, 51, at(1, 5, 1)), 2, places(8, 0, 52, at(1, 5, 1)), 2},
		{places(1, 0, 51, at(1, 5, 1)), 2, places(0, 1, 52, at(1, 5, 1)), 2},
		{places(api.MaxRest, 0, api.MaxTicks-1, at(1, 0)), 2, places(api.MaxRest-1, 0, api.MaxTicks, at(1, 0)), 2},
		{places(api.MaxRest, 0, api.MaxTicks, at(1, 0)), 2, places(api.MaxRest-1, 0, api.MaxTicks, at(1, 0)), 2},
		{places(0, 0, 0, at(4, 0)), 2, places(2, 0, 1, at(4, 1), at(3, 2), at(0, 2, 2)), 2},
		{places(1, 0, 3, at(4, 1), at(3, 2), at(0, 2, 1)), 2, nil, 2},
		{places(0, 0, 3, at(4, 1), at(3, 1), at(2, 0)), 2, places(2, 0, 4, at(4, 1), at(3, 2), at(0, 2, 2)), 2},
		{places(0, 0, 3, at(2, 0)), 2, nil, 2},
	} {
		r := sequence.Tick(text, names, api.Crew{Tasks: c.was}, []int{c.a})
		want := api.Round{Crew: api.Crew{Tasks: c.want}, Values: []int{c.now}}
		if c.want == nil {
			want.Ended = []int{c.was[0].Places[0].Seq}
		}
		if fmt.Sprint(r) != fmt.Sprint(want) {
			t.Errorf("%v, %d: %v; wanted %v", c.was, c.a, r, want)
		}
	}
}

// TestTogether: who is ahead changes values for those behind; commands are told as those of the task's own sequence; each START is told.
func TestTogether(t *testing.T) {
	const book = "SEQUENCE first LEVEL 5 LIMIT 9: a := a * 2; SEND first(a, a = 4); END; SEQUENCE then LEVEL 5 LIMIT 9: REPEAT 2: START first; END; CALL first; WAIT 1; END; SEQUENCE last LEVEL 0 LIMIT 9: CALL first; START then; START first; STOP; END;"
	r := sequence.Tick(book, []string{"a"}, crew(0, 0, 1, 0, 2, 0), []int{2})
	want := api.Round{
		Crew:   api.Crew{Tasks: []api.Task{task(1, 5, 1, 0, 1)}},
		Values: []int{16},
		Said:   []api.Said{{Seq: 0, Name: "first", Args: []int{4, 1}}, {Seq: 1, Name: "first", Args: []int{8, 0}}, {Seq: 2, Name: "first", Args: []int{16, 0}}},
		Asked:  []int{0, 0, 1, 0},
		Ended:  []int{0, 2},
	}
	if fmt.Sprint(r) != fmt.Sprint(want) {
		t.Errorf("%v; wanted %v", r, want)
	}
}

// TestValues: what operators make, at the edges of 32 bits, too.
func TestValues(t *testing.T) {
	const most, least = math.MaxInt32, math.MinInt32
	for _, c := range []struct {
		text    string
		a, b, n int
	}{
		{"a + b", most, 1, least}, {"a - b", least, 1, most}, {"a * b", 65536, 65536, 0}, {"a * b", 65536, 32768, least}, {"a * b", most, most, 1}, {"-a", least, 0, least}, {"-a", most, 0, least + 1}, {"-a", 5, 0, -5}, {"a * b", least, -1, least},
		{"a < b", 1, 2, 1}, {"a < b", 2, 2, 0}, {"a < b", least, most, 1}, {"a <= b", 2, 2, 1}, {"a <= b", 3, 2, 0}, {"a = b", 2, 2, 1}, {"a = b", 2, -2, 0}, {"a <> b", 2, 2, 0}, {"a <> b", 2, 1, 1}, {"a > b", 2, 2, 0}, {"a > b", 3, 2, 1}, {"a >= b", 2, 2, 1}, {"a >= b", 1, 2, 0},
		{"a AND b", 2, -1, 1}, {"a AND b", 0, 1, 0}, {"a AND b", 2, 0, 0}, {"a OR b", 0, 0, 0}, {"a OR b", 0, -3, 1}, {"a OR b", 7, 0, 1}, {"NOT a", 0, 0, 1}, {"NOT a", -1, 0, 0}, {"NOT a", 1, 0, 0}, {"a - b - 3", 10, 2, 5}, {"a + 2 * b", 1, 3, 7}, {"999999999 + 999999999 + 999999999", 0, 0, -1294967299},
	} {
		text := "SEQUENCE s LEVEL 0 LIMIT 2: c := " + c.text + "; SEND x(" + c.text + "); IF " + c.text + " THEN SEND yes; END; UNTIL " + c.text + " WITHIN 1 END; END;"
		r := sequence.Tick(text, []string{"a", "b", "c"}, crew(0, 0), []int{c.a, c.b, 9})
		if !slices.Equal(r.Values, []int{c.a, c.b, c.n}) || len(r.Said) == 0 || !slices.Equal(r.Said[0].Args, []int{c.n}) || len(r.Said)-1 != one(c.n != 0) || len(r.Ended) != one(c.n != 0) {
			t.Errorf("%s of %d and %d: %v; wanted %d", c.text, c.a, c.b, r, c.n)
		}
	}
}

// TestMuchWork: as many moves in a tick as there may be.
func TestMuchWork(t *testing.T) {
	const text = "SEQUENCE s LEVEL 0 LIMIT 1: REPEAT 999: REPEAT 49: a := a + 1; END; END; END;"
	r := sequence.Tick(text, []string{"a"}, crew(0, 0), []int{0})
	if r.Code != api.OK || !slices.Equal(r.Values, []int{999 * 49}) || !slices.Equal(r.Ended, []int{0}) {
		t.Error(r)
	}
}
