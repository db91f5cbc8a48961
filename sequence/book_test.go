package sequence_test

import (
	"reflect"
	"slices"
	"strconv"
	"strings"
	"testing"

	"farhail/api"
	"farhail/sequence"
)

// must: the book of a text without a fault.
func must(t *testing.T, text string, names ...string) api.Book {
	t.Helper()
	b, f := sequence.Load(text, names)
	if f != (api.Fault{}) {
		t.Fatalf("%.300q: %v", text, f)
	}
	return b
}

// The slow way to moves: lines with labels, which are looked for at the end.

type line struct {
	label string // nothing but a label, if there is one
	to    string // the label to which A leads
	move  api.Move
}

type writer struct {
	names  []string
	seqs   []script
	lines  []line
	labels int
}

func (w *writer) label() string {
	w.labels++
	return "l" + strconv.Itoa(w.labels)
}

func (w *writer) put(m api.Move, to string) { w.lines = append(w.lines, line{move: m, to: to}) }

func (w *writer) here(label string) { w.lines = append(w.lines, line{label: label}) }

// sum of an expression: what is below an operator, then the operator.
func (w *writer) sum(e *expr) []int {
	switch {
	case e.op == 0 && e.name == "":
		return []int{1, e.n}
	case e.op == 0:
		return []int{2, slices.Index(w.names, e.name)}
	case e.r == nil:
		return append(w.sum(e.l), 4, int(e.op))
	}
	return append(append(w.sum(e.l), w.sum(e.r)...), 3, int(e.op))
}

func (w *writer) sums(l []*expr) (out [][]int) {
	for _, e := range l {
		out = append(out, w.sum(e))
	}
	return out
}

func (w *writer) place(name string) int {
	return slices.IndexFunc(w.seqs, func(s script) bool { return s.name == name })
}

func (w *writer) list(l []tree) {
	for _, t := range l {
		w.tree(t)
	}
}

func (w *writer) tree(t tree) {
	first, mid, end := w.label(), w.label(), w.label()
	switch t.word {
	case "WAIT":
		w.put(api.Move{Do: api.Rest, N: t.n}, "")
	case "SEND":
		w.put(api.Move{Do: api.Say, Name: t.name, Sums: w.sums(t.args)}, "")
	case "SET":
		w.put(api.Move{Do: api.Keep, A: slices.Index(w.names, t.name), Sums: w.sums(t.args)}, "")
	case "CALL":
		w.put(api.Move{Do: api.Call, A: w.place(t.name)}, "")
	case "START":
		w.put(api.Move{Do: api.Launch, A: w.place(t.name)}, "")
	case "STOP":
		w.put(api.Move{Do: api.Halt}, "")
	case "REPEAT":
		w.put(api.Move{Do: api.Loop, N: t.n}, "")
		w.here(first)
		w.list(t.then)
		w.put(api.Move{Do: api.Back}, first)
	case "IF":
		w.put(api.Move{Do: api.Skip, Sums: w.sums(t.args)}, mid)
		w.list(t.then)
	case "UNTIL":
		w.put(api.Move{Do: api.Watch, N: t.n, Sums: w.sums(t.args)}, mid)
	}
	if t.two {
		w.put(api.Move{Do: api.Jump}, end)
	}
	w.here(mid)
	w.list(t.other)
	w.here(end)
}

// moves: the lines, without the labels.
func (w *writer) moves() (out []api.Move) {
	at := map[string]int{}
	for _, l := range w.lines {
		if l.label != "" {
			at[l.label] = len(out)
		} else {
			out = append(out, l.move)
		}
	}
	i := 0
	for _, l := range w.lines {
		if l.label == "" {
			if l.to != "" {
				out[i].A = at[l.to]
			}
			i++
		}
	}
	return out
}

// longest: how many ticks a list takes at most.
func longest(seqs []script, l []tree) (n int) {
	for _, t := range l {
		switch t.word {
		case "WAIT":
			n += t.n
		case "IF":
			n += max(longest(seqs, t.then), longest(seqs, t.other))
		case "REPEAT":
			n += t.n * longest(seqs, t.then)
		case "UNTIL":
			n += t.n + longest(seqs, t.other)
		case "CALL":
			n += longest(seqs, seqs[slices.IndexFunc(seqs, func(s script) bool { return s.name == t.name })].list)
		}
	}
	return n
}

// bookOf sequences.
func bookOf(names []string, l []script) (b api.Book) {
	for _, s := range l {
		w := &writer{names: names, seqs: l}
		w.list(s.list)
		b.Seqs = append(b.Seqs, api.Seq{Name: s.name, Level: s.level, Limit: s.limit, Needs: s.needs, Long: longest(l, s.list), Moves: w.moves()})
	}
	return b
}

// TestBooks: what sequences become.
func TestBooks(t *testing.T) {
	d := newDrawer(113)
	seen := map[api.MoveDo]int{}
	for range 3000 {
		l := d.scripts(4)
		text, want := d.text(l), bookOf(d.names, l)
		got, f := sequence.Load(text, d.names)
		if f.Code == api.ErrSize || f.Code == api.ErrSlow { // nested too deep, or called too often
			continue
		}
		if f != (api.Fault{}) || !reflect.DeepEqual(got, want) {
			t.Fatalf("%q: %v: %v; wanted %v", text, f, got, want)
		}
		for _, s := range got.Seqs {
			for _, m := range s.Moves {
				seen[m.Do]++
			}
		}
	}
	for do := api.Rest; do <= api.Halt; do++ {
		if seen[do] < 100 {
			t.Errorf("move %d was drawn %d times", do, seen[do])
		}
	}
}

const warm = "SEQUENCE warm LEVEL 2 LIMIT 20 NEEDS heater: SEND heat(1); UNTIL temp > 5 WITHIN 10 ELSE SEND alarm; END; SEND heat(0); END;"

func TestExample(t *testing.T) {
	want := api.Seq{Name: "warm", Level: 2, Limit: 20, Needs: []string{"heater"}, Long: 10, Moves: []api.Move{
		{Do: api.Say, Name: "heat", Sums: [][]int{{1, 1}}},
		{Do: api.Watch, N: 10, A: 3, Sums: [][]int{{2, 0, 1, 5, 3, int(api.More)}}},
		{Do: api.Jump, A: 4},
		{Do: api.Say, Name: "alarm"},
		{Do: api.Say, Name: "heat", Sums: [][]int{{1, 0}}},
	}}
	if b := must(t, warm, "temp"); !reflect.DeepEqual(b, api.Book{Seqs: []api.Seq{want}}) {
		t.Error(b)
	}
	must(t, strings.Replace(warm, "20", "11", 1), "temp")
	slow := strings.Replace(warm, "20", "10", 1)
	faults(t, slow, []string{"temp"}, api.Fault{Code: api.ErrSlow, At: len(slow) - 1})
}

// TestSums: which operators bind tighter, and that those that bind alike go from left to right.
func TestSums(t *testing.T) {
	const (
		plus, minus, times, less, most, same = int(api.Plus), int(api.Minus), int(api.Times), int(api.Less), int(api.Most), int(api.Same)
		unlike, more, least, and, or         = int(api.Other), int(api.More), int(api.Least), int(api.And), int(api.Or)
		not, neg                             = int(api.Not), int(api.Neg)
	)
	for _, c := range []struct {
		text string
		want []int
	}{
		{"7", []int{1, 7}}, {"999999999", []int{1, 999999999}}, {"a", []int{2, 0}}, {"b", []int{2, 1}}, {"((a))", []int{2, 0}}, {"-1", []int{1, 1, 4, neg}}, {"NOT - a", []int{2, 0, 4, neg, 4, not}},
		{"1 - 2 - 3", []int{1, 1, 1, 2, 3, minus, 1, 3, 3, minus}}, {"1 - (2 - 3)", []int{1, 1, 1, 2, 1, 3, 3, minus, 3, minus}}, {"1 + 2 - 3", []int{1, 1, 1, 2, 3, plus, 1, 3, 3, minus}}, {"1 + 2 * 3", []int{1, 1, 1, 2, 1, 3, 3, times, 3, plus}}, {"1 * 2 + 3", []int{1, 1, 1, 2, 3, times, 1, 3, 3, plus}},
		{"1 < 2 + 3", []int{1, 1, 1, 2, 1, 3, 3, plus, 3, less}}, {"1 <= 2", []int{1, 1, 1, 2, 3, most}}, {"1 = 2", []int{1, 1, 1, 2, 3, same}}, {"1 <> 2", []int{1, 1, 1, 2, 3, unlike}}, {"1 > 2", []int{1, 1, 1, 2, 3, more}}, {"1 >= 2", []int{1, 1, 1, 2, 3, least}},
		{"1 AND 2 OR 3", []int{1, 1, 1, 2, 3, and, 1, 3, 3, or}}, {"1 OR 2 AND 3", []int{1, 1, 1, 2, 1, 3, 3, and, 3, or}}, {"1 OR 2 OR 3", []int{1, 1, 1, 2, 3, or, 1, 3, 3, or}}, {"1 AND 2 AND 3 < 4", []int{1, 1, 1, 2, 3, and, 1, 3, 1, 4, 3, less, 3, and}},
		{"NOT a = b", []int{2, 0, 4, not, 2, 1, 3, same}}, {"-a * b", []int{2, 0, 4, neg, 2, 1, 3, times}}, {"a - -b", []int{2, 0, 2, 1, 4, neg, 3, minus}}, {"NOT (a = b)", []int{2, 0, 2, 1, 3, same, 4, not}},
	} {
		b := must(t, body("a := "+c.text+";"), "a", "b")
		if got := b.Seqs[0].Moves[0].Sums; len(got) != 1 || !slices.Equal(got[0], c.want) {
			t.Errorf("%s: %v; wanted %v", c.text, got, c.want)
		}
	}
}

// TestLongest: a sequence may take just as long as its limit lets it, and do just as much as there may be done.
func TestLongest(t *testing.T) {
	const ahead = "SEQUENCE r LEVEL 0 LIMIT 100: REPEAT 11: WAIT 9; END; END; "
	for _, c := range []struct {
		list string
		long int
	}{
		{"", 0}, {"SEND x; a := 1; START r; STOP;", 0}, {"WAIT 5;", 5}, {"WAIT 5; WAIT 6;", 11}, {"IF 1 THEN WAIT 5; END;", 5}, {"IF 1 THEN WAIT 5; ELSE WAIT 2; WAIT 2; END;", 5}, {"IF 1 THEN WAIT 5; ELSE WAIT 3; WAIT 3; END;", 6},
		{"REPEAT 7: WAIT 1; WAIT 2; END;", 21}, {"REPEAT 7: REPEAT 3: WAIT 2; END; WAIT 1; END;", 49}, {"UNTIL 1 WITHIN 9 END;", 9}, {"UNTIL 1 WITHIN 9 ELSE WAIT 3; END;", 12}, {"CALL r;", 99}, {"REPEAT 2: CALL r; CALL r; END; WAIT 1;", 397}, {"REPEAT 1000: WAIT 99; END;", 99000}, {"REPEAT 9: WAIT 10000; END; WAIT 9999;", 99999},
	} {
		text := func(limit int) string {
			return ahead + strings.Replace(body(c.list), "100000", strconv.Itoa(limit), 1)
		}
		if b := must(t, text(c.long+1), "a"); b.Seqs[1].Long != c.long {
			t.Errorf("%s: %d; wanted %d", c.list, b.Seqs[1].Long, c.long)
		}
		if c.long > 0 {
			faults(t, text(c.long), []string{"a"}, api.Fault{Code: api.ErrSlow, At: len(text(c.long)) - 1})
		}
	}
}

// TestWork: with so many more moves, a list does just as much as there may be done.
func TestWork(t *testing.T) {
	for _, c := range []struct {
		list string
		work int
	}{
		{"", 0}, {"SEND x(1, 2); a := 1; START r; STOP; WAIT 9;", 5}, {"IF 1 THEN END;", 1}, {"IF 1 THEN STOP; STOP; END;", 3}, {"IF 1 THEN STOP; STOP; ELSE STOP; END;", 4}, {"IF 1 THEN STOP; ELSE STOP; STOP; END;", 4}, {"IF 1 THEN ELSE END;", 2}, {"REPEAT 7: END;", 8}, {"REPEAT 7: STOP; STOP; END;", 22}, {"REPEAT 7: REPEAT 3: STOP; END; END;", 57},
		{"UNTIL 1 WITHIN 9 END;", 10}, {"UNTIL 1 WITHIN 9 ELSE END;", 11}, {"UNTIL 1 WITHIN 9 ELSE STOP; STOP; END;", 13}, {"CALL r;", 6}, {"CALL r; CALL r;", 12}, {"REPEAT 2: CALL r; END;", 15}, {"IF 1 THEN REPEAT 9: END; ELSE CALL r; END;", 12},
	} {
		// 98 loops of 1001 moves, and what is left till 100000.
		left := api.MaxWork - 98*1001 - c.work - 2
		text := func(more int) string {
			fill := strings.Repeat("REPEAT 1000: END;", 98) + "REPEAT " + strconv.Itoa(left/2) + ": END; REPEAT " + strconv.Itoa(left-left/2+more) + ": END;"
			return "SEQUENCE r LEVEL 0 LIMIT 100: REPEAT 4: END; END; " + body(fill+c.list)
		}
		must(t, text(0), "a")
		faults(t, text(1), []string{"a"}, api.Fault{Code: api.ErrSlow, At: len(text(1)) - 1})
	}
	// Costs that no number holds.
	for _, inner := range []string{"WAIT 10000;", "STOP;"} {
		nest := strings.Repeat("REPEAT 1000: ", 7) + inner + strings.Repeat(" END;", 7)
		for _, list := range []string{nest, nest + nest, "REPEAT 1000: " + nest + " END;", "IF 1 THEN " + nest + " ELSE " + inner + " END;" + nest, "UNTIL 1 WITHIN 1 ELSE " + nest + " END;"} {
			faults(t, body(list), nil, api.Fault{Code: api.ErrSlow, At: len(body(list)) - 1})
		}
	}
}
