package sequence_test

import (
	"fmt"
	"math"
	"reflect"
	"slices"
	"strconv"
	"strings"
	"testing"

	"farhail/api"
	"farhail/sequence"
)

// The slow way to tell whether a crew may be, word by word.

// loopsAround: the rounds of the loops of which the Loop lies ahead of a move, and the Back does not.
func loopsAround(moves []api.Move, at int) (rounds []int) {
	for l, m := range moves {
		if m.Do != api.Loop {
			continue
		}
		deep := 0
		for b := l; ; b++ {
			if moves[b].Do == api.Loop {
				deep++
			}
			if moves[b].Do == api.Back {
				deep--
			}
			if deep == 0 {
				if l < at && b >= at {
					rounds = append(rounds, m.N)
				}
				break
			}
		}
	}
	return rounds
}

func slowPlaceMayBe(b api.Book, l []api.Place, i int) bool {
	p := l[i]
	if p.Seq < 0 || p.Seq >= len(b.Seqs) || p.At < 0 || p.At > len(b.Seqs[p.Seq].Moves) {
		return false
	}
	rounds := loopsAround(b.Seqs[p.Seq].Moves, p.At)
	if len(rounds) != len(p.Loops) {
		return false
	}
	for k, n := range rounds {
		if p.Loops[k] < 1 || p.Loops[k] > n {
			return false
		}
	}
	if i == 0 {
		return true
	}
	from := l[i-1]
	if from.At < 1 {
		return false
	}
	m := b.Seqs[from.Seq].Moves[from.At-1]
	return m.Do == api.Call && m.A == p.Seq
}

func slowTaskMayBe(b api.Book, k api.Task) bool {
	for i := range k.Places {
		if !slowPlaceMayBe(b, k.Places, i) {
			return false
		}
	}
	if len(k.Places) == 0 || k.Left < 0 || k.Left > api.MaxRest || k.Age < 0 || k.Age > api.MaxTicks {
		return false
	}
	last := k.Places[len(k.Places)-1]
	moves := b.Seqs[last.Seq].Moves
	if k.Left == 0 && last.At < len(moves) && moves[last.At].Do == api.Watch {
		return k.Since >= 0 && k.Since <= moves[last.At].N
	}
	return k.Since == 0
}

func slowMayBe(b api.Book, c api.Crew) bool {
	seen, needs, level := map[int]bool{}, map[string]bool{}, api.MaxLevel
	for _, k := range c.Tasks {
		if !slowTaskMayBe(b, k) {
			return false
		}
		s := b.Seqs[k.Places[0].Seq]
		if seen[k.Places[0].Seq] || s.Level > level {
			return false
		}
		seen[k.Places[0].Seq], level = true, s.Level
		for _, need := range s.Needs {
			if needs[need] {
				return false
			}
			needs[need] = true
		}
	}
	return len(c.Tasks) <= api.MaxTasks
}

// drawnPlaces: places that may be, of a sequence and of what it calls.
func (d *drawer) drawnPlaces(b api.Book, seq int) (l []api.Place) {
	for {
		moves := b.Seqs[seq].Moves
		p := api.Place{Seq: seq, At: d.Intn(len(moves) + 1)}
		for _, n := range loopsAround(moves, p.At) {
			p.Loops = append(p.Loops, 1+d.Intn(n))
		}
		l = append(l, p)
		if p.At == 0 || moves[p.At-1].Do != api.Call || d.Intn(4) == 0 {
			return l
		}
		seq = moves[p.At-1].A
	}
}

// drawnTask: one that may be, of a sequence.
func (d *drawer) drawnTask(b api.Book, seq int) api.Task {
	k := api.Task{Places: d.drawnPlaces(b, seq), Left: []int{0, 0, 1, d.Intn(5), api.MaxRest}[d.Intn(5)], Age: []int{0, d.Intn(100), api.MaxTicks - 1, api.MaxTicks}[d.Intn(4)]}
	last := k.Places[len(k.Places)-1]
	moves := b.Seqs[last.Seq].Moves
	if k.Left == 0 && last.At < len(moves) && moves[last.At].Do == api.Watch {
		k.Since = d.Intn(moves[last.At].N + 1)
	}
	return k
}

// drawnCrew: mostly one that may be.
func (d *drawer) drawnCrew(b api.Book) (c api.Crew) {
	needs := map[string]bool{}
	for _, i := range d.Perm(len(b.Seqs)) {
		free := d.Intn(4) > 0
		for _, need := range b.Seqs[i].Needs {
			free = free && !needs[need]
		}
		if !free && d.Intn(20) > 0 {
			continue
		}
		for _, need := range b.Seqs[i].Needs {
			needs[need] = true
		}
		c.Tasks = append(c.Tasks, d.drawnTask(b, i))
	}
	if d.Intn(10) > 0 {
		slices.SortStableFunc(c.Tasks, func(x, y api.Task) int {
			return b.Seqs[y.Places[0].Seq].Level - b.Seqs[x.Places[0].Seq].Level
		})
	}
	return c
}

// spoilCrew: a number of it is another one, or there is more or less of it.
func (d *drawer) spoilCrew(c api.Crew) {
	if len(c.Tasks) == 0 {
		return
	}
	k := &c.Tasks[d.Intn(len(c.Tasks))]
	p := &k.Places[d.Intn(len(k.Places))]
	odd := []int{-1, 1, 2, d.Intn(9), math.MinInt, math.MaxInt, -2, 3}[d.Intn(8)]
	switch d.Intn(11) {
	case 0:
		p.Seq += odd
	case 1:
		p.At += odd
	case 2:
		p.Loops = append(p.Loops, odd)
	case 3:
		p.Loops = p.Loops[:max(0, len(p.Loops)-1)]
	case 4:
		if len(p.Loops) > 0 {
			p.Loops[d.Intn(len(p.Loops))] += odd
		}
	case 5:
		k.Left += odd
	case 6:
		k.Since += odd
	case 7:
		k.Age += odd
	case 8:
		k.Places = k.Places[:len(k.Places)-1]
	case 9:
		k.Places = append(k.Places, api.Place{Seq: d.Intn(3)})
	case 10:
		*k = c.Tasks[0]
	}
}

// loads: sequences drawn till they have a book.
func (d *drawer) loads(most int) ([]script, string, api.Book) {
	for {
		l := d.scripts(most)
		text := d.text(l)
		if b, f := sequence.Load(text, d.names); f.Code == api.OK {
			return l, text, b
		}
	}
}

// TestCrewsThatMayBe, and those that may not, for Start and for Tick.
func TestCrewsThatMayBe(t *testing.T) {
	d := newDrawer(114)
	may, not := 0, 0
	for range 6000 {
		_, text, b := d.loads(5)
		c := d.drawnCrew(b)
		if d.Intn(2) == 0 {
			d.spoilCrew(c)
		}
		was := fmt.Sprint(c)
		values := []int{0, 1, 2}
		r := sequence.Tick(text, d.names, c, values)
		n, l, e := sequence.Start(text, d.names, c, "nobody")
		if slowMayBe(b, c) {
			may++
			if r.Code != api.OK || e != api.ErrName || fmt.Sprint(n) != was || len(l) > 0 {
				t.Fatalf("%q: %v: may be: %v %v %v", text, c, r.Code, n, e)
			}
			continue
		}
		not++
		if e != api.ErrState || len(n.Tasks) > 0 || len(l) > 0 || !reflect.DeepEqual(r, api.Round{Code: api.ErrState}) {
			t.Fatalf("%q: %v: may not be: %v %v %v", text, c, r, n, e)
		}
	}
	if may < 1000 || not < 1000 {
		t.Error(may, not)
	}
}

// TestTasksThatMayBe: the edges of each number.
func TestTasksThatMayBe(t *testing.T) {
	const text = "SEQUENCE sub LEVEL 1 LIMIT 9: END; SEQUENCE s LEVEL 1 LIMIT 99: REPEAT 3: REPEAT 2: CALL sub; END; UNTIL 0 WITHIN 5 END; END; WAIT 1; CALL sub; END;" // Loop Loop Call Back Watch Back Rest Call
	at := func(seq, at int, loops ...int) api.Place { return api.Place{Seq: seq, At: at, Loops: loops} }
	of := func(left, since, age int, l ...api.Place) api.Task {
		return api.Task{Places: l, Left: left, Since: since, Age: age}
	}
	may := []api.Task{
		of(0, 0, 0, at(1, 0)), of(0, 0, 0, at(1, 8)), of(0, 0, 0, at(0, 0)), of(api.MaxRest, 0, 0, at(1, 0)), of(0, 0, api.MaxTicks, at(1, 0)),
		of(0, 0, 0, at(1, 1, 3)), of(0, 0, 0, at(1, 1, 1)), of(0, 0, 0, at(1, 2, 3, 2)), of(0, 0, 0, at(1, 2, 1, 1)), of(0, 0, 0, at(1, 3, 3, 2)), of(0, 0, 0, at(1, 4, 3)), of(0, 5, 0, at(1, 4, 3)), of(0, 1, 0, at(1, 4, 3)), of(1, 0, 0, at(1, 4, 3)), of(0, 0, 0, at(1, 5, 2)), of(0, 0, 0, at(1, 6)),
		of(0, 0, 0, at(1, 3, 3, 2), at(0, 0)), of(7, 0, 0, at(1, 8), at(0, 0)),
	}
	not := []api.Task{
		of(0, 0, 0), of(0, 0, 0, at(1, -1)), of(0, 0, 0, at(1, 9)), of(0, 0, 0, at(0, 1)), of(0, 0, 0, at(2, 0)), of(0, 0, 0, at(-1, 0)), of(-1, 0, 0, at(1, 0)), of(api.MaxRest+1, 0, 0, at(1, 0)), of(0, 0, -1, at(1, 0)), of(0, 0, api.MaxTicks+1, at(1, 0)), of(0, 1, 0, at(1, 0)), of(0, -1, 0, at(1, 0)), of(0, 1, 0, at(1, 8)),
		of(0, 0, 0, at(1, 0, 3)), of(0, 0, 0, at(1, 1)), of(0, 0, 0, at(1, 1, 4)), of(0, 0, 0, at(1, 1, 0)), of(0, 0, 0, at(1, 1, -1)), of(0, 0, 0, at(1, 1, 3, 2)), of(0, 0, 0, at(1, 2, 2, 3)), of(0, 0, 0, at(1, 2, 3, 0)), of(0, 0, 0, at(1, 3, 3)), of(0, 0, 0, at(1, 4, 3, 1)), of(0, 0, 0, at(1, 4)), of(0, 6, 0, at(1, 4, 3)), of(0, -1, 0, at(1, 4, 3)), of(1, 1, 0, at(1, 4, 3)), of(0, 1, 0, at(1, 5, 3)), of(0, 0, 0, at(1, 5)), of(0, 0, 0, at(1, 6, 1)),
		of(0, 0, 0, at(1, 2, 3, 2), at(0, 0)), of(0, 0, 0, at(1, 3, 3, 2), at(1, 0)), of(0, 0, 0, at(1, 0), at(0, 0)), of(0, 0, 0, at(1, 7), at(0, 0)), of(0, 0, 0, at(1, 8), at(0, 0), at(0, 0)), of(0, 0, 0, at(0, 0), at(1, 8)), of(0, 0, 0, at(1, 8), at(0, 1)), of(0, 0, 0, at(1, 8, 1), at(0, 0)), of(0, 1, 0, at(1, 8), at(0, 0)),
	}
	for i, k := range append(may, not...) {
		c := api.Crew{Tasks: []api.Task{k}}
		r := sequence.Tick(text, nil, c, nil)
		_, _, e := sequence.Start(text, nil, c, "nobody")
		if ok := i < len(may); ok != (r.Code == api.OK) || ok != (e == api.ErrName) || !ok && (r.Code != api.ErrState || e != api.ErrState) || ok != slowMayBe(must(t, text), c) {
			t.Errorf("%v: %v %v", k, r.Code, e)
		}
	}
}

// many: so many sequences without a move, of which the last one has the highest level.
func many(n int) (text string) {
	for i := range n {
		text += "SEQUENCE s" + strconv.Itoa(i) + " LEVEL " + strconv.Itoa(i*10/n) + " LIMIT 9: END;"
	}
	return text
}

// TestCrewSizes: as many tasks as there may be, and one more.
func TestCrewSizes(t *testing.T) {
	text := many(api.MaxTasks + 2)
	var c api.Crew
	for i := range api.MaxTasks {
		n, l, e := sequence.Start(text, nil, c, "s"+strconv.Itoa(i))
		if e != api.OK || len(l) > 0 || len(n.Tasks) != i+1 {
			t.Fatal(i, n, l, e)
		}
		c = n
	}
	for _, s := range []struct {
		name string
		e    api.Errno
	}{{"s16", api.ErrFull}, {"s17", api.ErrFull}, {"s3", api.ErrTwice}, {"s18", api.ErrName}, {"", api.ErrName}} {
		if n, l, e := sequence.Start(text, nil, c, s.name); e != s.e || len(l) > 0 || !reflect.DeepEqual(n, c) {
			t.Error(s.name, n, l, e)
		}
	}
	if r := sequence.Tick(text, nil, c, nil); r.Code != api.OK || len(r.Ended) != api.MaxTasks || r.Ended[0] != api.MaxTasks-1 {
		t.Error(r)
	}
	c.Tasks = slices.Insert(c.Tasks, 0, api.Task{Places: []api.Place{{Seq: 17}}})
	if r := sequence.Tick(text, nil, c, nil); r.Code != api.ErrState {
		t.Error(r)
	}
	if _, _, e := sequence.Start(text, nil, c, "s16"); e != api.ErrState {
		t.Error(e)
	}
}

// TestPlansThatMayNotBe: what Load refuses, ahead of a crew that may not be.
func TestPlansThatMayNotBe(t *testing.T) {
	bad := api.Crew{Tasks: []api.Task{{}}}
	for _, c := range []struct {
		text  string
		names []string
	}{{"SEQUENCE", nil}, {"", []string{"a", "a"}}, {strings.Repeat(" ", api.MaxText+1), nil}, {"SEQUENCE s LEVEL 1 LIMIT 1: WAIT 1; END;", nil}} {
		for _, crew := range []api.Crew{{}, bad} {
			if n, l, e := sequence.Start(c.text, c.names, crew, "s"); e != api.ErrPlan || len(n.Tasks) > 0 || len(l) > 0 {
				t.Errorf("%.50q: %v %v %v", c.text, n, l, e)
			}
			if r := sequence.Tick(c.text, c.names, crew, nil); !reflect.DeepEqual(r, api.Round{Code: api.ErrPlan}) {
				t.Errorf("%.50q: %v", c.text, r)
			}
		}
	}
}

// TestValuesThatMayNotBe: too few, too many, too great.
func TestValuesThatMayNotBe(t *testing.T) {
	names := []string{"a", "b"}
	for _, v := range [][]int{nil, {1}, {1, 2, 3}, {0, math.MaxInt32 + 1}, {math.MinInt32 - 1, 0}, {math.MaxInt, 0}, {0, math.MinInt}} {
		if r := sequence.Tick("", names, api.Crew{}, v); !reflect.DeepEqual(r, api.Round{Code: api.ErrState}) {
			t.Error(v, r)
		}
	}
	for _, v := range [][]int{{0, 0}, {math.MaxInt32, math.MinInt32}, {-1, 1}} {
		if r := sequence.Tick("", names, api.Crew{}, v); r.Code != api.OK || !slices.Equal(r.Values, v) || len(r.Crew.Tasks) > 0 {
			t.Error(v, r)
		}
	}
}

// crew of tasks at these sequences' first moves, of these ages.
func crew(seqsAndAges ...int) (c api.Crew) {
	for i := 0; i < len(seqsAndAges); i += 2 {
		c.Tasks = append(c.Tasks, api.Task{Places: []api.Place{{Seq: seqsAndAges[i]}}, Age: seqsAndAges[i+1]})
	}
	return c
}

// TestStart: who is stopped, who is not, and where the new one stands.
func TestStart(t *testing.T) {
	const text = "SEQUENCE low LEVEL 1 LIMIT 9 NEEDS x: END; SEQUENCE mid LEVEL 4 LIMIT 9 NEEDS y, z: END; SEQUENCE mad LEVEL 4 LIMIT 9 NEEDS w: END; SEQUENCE top LEVEL 8 LIMIT 9 NEEDS z, x: END; SEQUENCE free LEVEL 4 LIMIT 9: END; SEQUENCE x LEVEL 1 LIMIT 9 NEEDS x: END;"
	for _, c := range []struct {
		crew api.Crew
		name string
		want api.Crew
		gone []int
		e    api.Errno
	}{
		{crew(), "low", crew(0, 0), nil, api.OK},
		{crew(0, 5), "mid", crew(1, 0, 0, 5), nil, api.OK},
		{crew(1, 5), "low", crew(1, 5, 0, 0), nil, api.OK},
		{crew(1, 5, 2, 3, 0, 1), "free", crew(1, 5, 2, 3, 4, 0, 0, 1), nil, api.OK},
		{crew(3, 5, 2, 3), "free", crew(3, 5, 2, 3, 4, 0), nil, api.OK},
		{crew(1, 5, 2, 3, 0, 1), "top", crew(3, 0, 2, 3), []int{1, 0}, api.OK},
		{crew(2, 3, 0, 1), "top", crew(3, 0, 2, 3), []int{0}, api.OK},
		{crew(0, 5), "x", crew(0, 5), nil, api.ErrShut},
		{crew(5, 5), "low", crew(5, 5), nil, api.ErrShut},
		{crew(3, 5), "low", crew(3, 5), nil, api.ErrShut},
		{crew(3, 5), "mid", crew(3, 5), nil, api.ErrShut},
		{crew(3, 5), "top", crew(3, 5), nil, api.ErrTwice},
		{crew(0, 5), "low", crew(0, 5), nil, api.ErrTwice},
		{crew(0, 5), "lo", crew(0, 5), nil, api.ErrName},
		{crew(0, 5), "LOW", crew(0, 5), nil, api.ErrName},
		{crew(0, 5), "", crew(0, 5), nil, api.ErrName},
		{crew(0, 5, 1, 1), "low", crew(), nil, api.ErrState},
		{crew(3, 5, 1, 1), "low", crew(), nil, api.ErrState},
		{crew(2, 5, 2, 1), "low", crew(), nil, api.ErrState},
	} {
		n, l, e := sequence.Start(text, nil, c.crew, c.name)
		if e != c.e || !slices.Equal(l, c.gone) || !reflect.DeepEqual(n, c.want) {
			t.Errorf("%v %s: %v %v %v; wanted %v %v %v", c.crew, c.name, n, l, e, c.want, c.gone, c.e)
		}
	}
}

// TestStartFull: with as many others as there may be, one that stops another has room, one that stops none has none.
func TestStartFull(t *testing.T) {
	text, c := "SEQUENCE top LEVEL 9 LIMIT 9 NEEDS x: END; SEQUENCE odd LEVEL 9 LIMIT 9 NEEDS y: END; SEQUENCE even LEVEL 3 LIMIT 9 NEEDS x: END;", api.Crew{}
	for i := range api.MaxTasks {
		needs := ""
		if i == 7 {
			needs = " NEEDS x"
		}
		text += "SEQUENCE s" + strconv.Itoa(i) + " LEVEL 3 LIMIT 9" + needs + ": END;"
		c.Tasks = append(c.Tasks, crew(i+3, i).Tasks...)
	}
	if n, l, e := sequence.Start(text, nil, c, "even"); e != api.ErrShut || len(l) > 0 || !reflect.DeepEqual(n, c) {
		t.Error(n, l, e)
	}
	if n, l, e := sequence.Start(text, nil, c, "odd"); e != api.ErrFull || len(l) > 0 || !reflect.DeepEqual(n, c) {
		t.Error(n, l, e)
	}
	n, l, e := sequence.Start(text, nil, c, "top")
	want := api.Crew{Tasks: slices.Concat(crew(0, 0).Tasks, c.Tasks[:7], c.Tasks[8:])}
	if e != api.OK || !slices.Equal(l, []int{10}) || !reflect.DeepEqual(n, want) {
		t.Error(n, l, e)
	}
}
