package sequence_test

import (
	"math/rand"
	"regexp"
	"strconv"
	"strings"

	"farhail/api"
)

// expr is an expression as a tree.
type expr struct {
	op   api.Op // 0: a number, or a variable
	n    int
	name string
	l, r *expr // Not and Neg have l alone
}

// tree is a statement as a tree: what its first word is (SET: an assignment).
type tree struct {
	word        string
	n           int
	name        string
	args        []*expr
	then, other []tree
	two         bool // whether there is an ELSE
}

// script is a sequence as a tree.
type script struct {
	name         string
	level, limit int
	needs        []string
	list         []tree
}

var signs = map[api.Op]string{api.Plus: "+", api.Minus: "-", api.Times: "*", api.Less: "<", api.Most: "<=", api.Same: "=",
	api.Other: "<>", api.More: ">", api.Least: ">=", api.And: "AND", api.Or: "OR", api.Not: "NOT", api.Neg: "-"}

// tight: how tightly an operator binds.
func tight(op api.Op) int {
	switch op {
	case api.Or:
		return 1
	case api.And:
		return 2
	case api.Less, api.Most, api.Same, api.Other, api.More, api.Least:
		return 3
	case api.Plus, api.Minus:
		return 4
	case api.Times:
		return 5
	}
	return 6
}

// tokens of an expression that has to bind at least so tightly; now and then with parentheses that it does not need.
func (e *expr) tokens(r *rand.Rand, least int) (l []string) {
	if tight(e.op) < least || r.Intn(12) == 0 {
		return append(append([]string{"("}, e.tokens(r, 0)...), ")")
	}
	k := tight(e.op)
	switch {
	case e.op == 0 && e.name != "":
		return []string{e.name}
	case e.op == 0:
		return []string{strconv.Itoa(e.n)}
	case k == 6:
		return append([]string{signs[e.op]}, e.l.tokens(r, 6)...)
	case k == 3: // no two of them stand in a row
		l = e.l.tokens(r, 4)
	default:
		l = e.l.tokens(r, k)
	}
	return append(append(l, signs[e.op]), e.r.tokens(r, k+1)...)
}

func (t tree) tokens(r *rand.Rand) []string {
	l := []string{t.word}
	switch t.word {
	case "SET":
		l = append(append([]string{t.name, ":="}, t.args[0].tokens(r, 0)...), ";")
	case "WAIT":
		l = append(l, strconv.Itoa(t.n), ";")
	case "CALL", "START":
		l = append(l, t.name, ";")
	case "STOP":
		l = append(l, ";")
	case "SEND":
		l = append(l, t.name)
		for i, a := range t.args {
			l = append(append(l, []string{"(", ",", ",", ","}[i]), a.tokens(r, 0)...)
		}
		if len(t.args) > 0 {
			l = append(l, ")")
		}
		l = append(l, ";")
	case "IF":
		l = append(append(l, t.args[0].tokens(r, 0)...), "THEN")
		l = append(append(l, listTokens(r, t.then)...), t.ending(r)...)
	case "REPEAT":
		l = append(append(l, strconv.Itoa(t.n), ":"), listTokens(r, t.then)...)
		l = append(l, "END", ";")
	case "UNTIL":
		l = append(append(l, t.args[0].tokens(r, 0)...), "WITHIN", strconv.Itoa(t.n))
		l = append(l, t.ending(r)...)
	}
	return l
}

// ending of what may have an ELSE.
func (t tree) ending(r *rand.Rand) (l []string) {
	if t.two {
		l = append([]string{"ELSE"}, listTokens(r, t.other)...)
	}
	return append(l, "END", ";")
}

func listTokens(r *rand.Rand, list []tree) (l []string) {
	for _, t := range list {
		l = append(l, t.tokens(r)...)
	}
	return l
}

func (s script) tokens(r *rand.Rand) []string {
	l := []string{"SEQUENCE", s.name, "LEVEL", strconv.Itoa(s.level), "LIMIT", strconv.Itoa(s.limit)}
	for i, need := range s.needs {
		l = append(l, []string{"NEEDS", ","}[min(i, 1)], need)
	}
	return append(append(append(l, ":"), listTokens(r, s.list)...), "END", ";")
}

var (
	wordEnds   = regexp.MustCompile(`[A-Za-z_][A-Za-z0-9_]*$`)
	wordBegins = regexp.MustCompile(`^[A-Za-z0-9_]`)
)

// apartAtAll: would two tokens become something else, if nothing stood between them?
func apartAtAll(a, b string) bool {
	switch {
	case wordBegins.MatchString(b):
		return wordEnds.MatchString(a) || wordBegins.MatchString(a) && b[0] >= '0' && b[0] <= '9'
	case a == ":" || a == "<" || a == ">":
		return b[0] == '=' || b[0] == '>'
	}
	return false
}

// written: a text of these tokens, with whatever may stand between them.
func written(r *rand.Rand, tokens []string) string {
	var b strings.Builder
	for i, s := range tokens {
		between := []string{"", " ", "\n", "\t", "\r\n", " # SEQUENCE; $ END\n", "  ", "#\r"}[min(r.Intn(24), 7)]
		if between == "" && i > 0 && apartAtAll(tokens[i-1], s) {
			between = " "
		}
		b.WriteString(between + s)
	}
	return b.String() + []string{"", "\n", " # that is all"}[r.Intn(3)]
}

// drawer draws sequences; those that are there already, and their needs.
type drawer struct {
	*rand.Rand
	names []string
	done  []script
}

func (d *drawer) expr(deep int) *expr {
	if deep == 0 || d.Intn(3) == 0 {
		if d.Intn(2) == 0 {
			return &expr{name: d.names[d.Intn(len(d.names))]}
		}
		return &expr{n: []int{0, 1, 2, 3, 7, 999999999, d.Intn(100), d.Intn(1000000000)}[d.Intn(8)]}
	}
	e := &expr{op: api.Op(1 + d.Intn(13)), l: d.expr(deep - 1)}
	if e.op != api.Not && e.op != api.Neg {
		e.r = d.expr(deep - 1)
	}
	return e
}

func (d *drawer) list(needs []string, deep, most int) (l []tree) {
	for range d.Intn(most + 1) {
		l = append(l, d.tree(needs, deep))
	}
	return l
}

// callable: the name of a sequence that may be called by one with these needs; nothing, if none was found.
func (d *drawer) callable(needs []string, call bool) string {
	for range 4 {
		if len(d.done) == 0 {
			break
		}
		s := d.done[d.Intn(len(d.done))]
		fits := true
		for _, need := range s.needs {
			fits = fits && strings.Contains(" "+strings.Join(needs, " ")+" ", " "+need+" ")
		}
		if fits || !call {
			return s.name
		}
	}
	return ""
}

func (d *drawer) tree(needs []string, deep int) tree {
	t := tree{word: []string{"SET", "SEND", "WAIT", "IF", "REPEAT", "UNTIL", "CALL", "START", "STOP", "SET", "SEND", "WAIT", "CALL"}[d.Intn(13)]}
	if deep == 0 && (t.word == "IF" || t.word == "REPEAT") {
		t.word = "SEND"
	}
	if t.word == "STOP" && d.Intn(3) > 0 { // it would end most of them early
		t.word = "SET"
	}
	if t.word == "CALL" || t.word == "START" {
		if t.name = d.callable(needs, t.word == "CALL"); t.name == "" {
			t.word = "SET"
		}
	}
	switch t.word {
	case "SET":
		t.name, t.args = d.names[d.Intn(len(d.names))], []*expr{d.expr(3)}
	case "WAIT":
		t.n = 1 + d.Intn(4)
	case "SEND":
		t.name = []string{"x", "fan", "a", "heat_2", "abcdefghijklmnop"}[d.Intn(5)]
		for range d.Intn(api.MaxArgs + 1) {
			t.args = append(t.args, d.expr(2))
		}
	case "IF":
		t.args, t.then = []*expr{d.expr(2)}, d.list(needs, deep-1, 3)
	case "REPEAT":
		t.n, t.then = 1+d.Intn(4), d.list(needs, deep-1, 3)
	case "UNTIL":
		t.args, t.n = []*expr{d.expr(2)}, 1+d.Intn(4)
	}
	if t.two = (t.word == "IF" || t.word == "UNTIL") && d.Intn(2) == 0; t.two {
		t.other = d.list(needs, max(deep-1, 0), 3)
	}
	return t
}

// scripts: some sequences, of which the later ones call and start the ones ahead.
func (d *drawer) scripts(most int) []script {
	d.done = nil
	for range 1 + d.Intn(most) {
		s := script{name: "s" + strconv.Itoa(len(d.done)), level: d.Intn(api.MaxLevel + 1), limit: api.MaxTicks}
		for _, need := range []string{"x", "y", "z_1", "w"} {
			if d.Intn(4) == 0 {
				s.needs = append(s.needs, need)
			}
		}
		s.list = d.list(s.needs, 2, 6)
		d.done = append(d.done, s)
	}
	return d.done
}

// text of sequences.
func (d *drawer) text(l []script) string {
	var tokens []string
	for _, s := range l {
		tokens = append(tokens, s.tokens(d.Rand)...)
	}
	return written(d.Rand, tokens)
}

func newDrawer(seed int64) *drawer {
	return &drawer{Rand: rand.New(rand.NewSource(seed)), names: []string{"a", "b", "c_1"}}
}
