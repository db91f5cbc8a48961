package sequence

import "farhail/api"

// What the first number of a sum's pair says of the second one.
const (
	aNumber   = 1
	aVariable = 2
	ofTwo     = 3 // an operator, of the two last ones
	ofOne     = 4 // an operator, of the last one
)

// sign of an operator.
type sign struct {
	text string
	op   api.Op
}

// rank of operators that bind alike: whether many of them may stand in a row, and what reads the parts between them, behind a sum so far.
type rank struct {
	signs []sign
	many  bool
	part  func(r *reader, sum []int) []int
}

// read parts with operators between them, each of these put behind its two parts.
func (k rank) read(r *reader, sum []int) []int {
	sum = k.part(r, sum)
	for op := k.opAt(r); op != 0; op = k.opAt(r) {
		r.step()
		sum = append(k.part(r, sum), ofTwo, int(op))
		if !k.many {
			break
		}
	}
	return sum
}

// opAt: which of the rank's operators a reader stands at; 0: none.
func (k rank) opAt(r *reader) api.Op {
	for _, s := range k.signs {
		if r.sees(s.text) {
			return s.op
		}
	}
	return 0
}

// sum of an expression.
func (r *reader) sum() []int { return r.either(nil) }

// beginsSum: can the token be the first one of an expression?
func (r *reader) beginsSum() bool {
	return r.now.kind == counted || r.now.kind == naming || r.sees("NOT", "-", "(")
}

func (r *reader) either(sum []int) []int {
	return rank{signs: []sign{{"OR", api.Or}}, many: true, part: (*reader).both}.read(r, sum)
}

func (r *reader) both(sum []int) []int {
	return rank{signs: []sign{{"AND", api.And}}, many: true, part: (*reader).than}.read(r, sum)
}

func (r *reader) than(sum []int) []int {
	signs := []sign{{"<", api.Less}, {"<=", api.Most}, {"=", api.Same}, {"<>", api.Other}, {">", api.More}, {">=", api.Least}}
	return rank{signs: signs, part: (*reader).terms}.read(r, sum)
}

func (r *reader) terms(sum []int) []int {
	return rank{signs: []sign{{"+", api.Plus}, {"-", api.Minus}}, many: true, part: (*reader).product}.read(r, sum)
}

func (r *reader) product(sum []int) []int {
	return rank{signs: []sign{{"*", api.Times}}, many: true, part: (*reader).one}.read(r, sum)
}

func (r *reader) one(sum []int) []int {
	switch {
	case r.sees("NOT"):
		return r.turned(sum, api.Not)
	case r.sees("-"):
		return r.turned(sum, api.Neg)
	case r.sees("("):
		sum = r.nested(sum, (*reader).either)
		r.pass(")")
		return sum
	case r.now.kind == counted:
		n := r.now.n
		r.step()
		return append(sum, aNumber, n)
	}
	return append(sum, aVariable, r.variable())
}

func (r *reader) turned(sum []int, op api.Op) []int {
	return append(r.nested(sum, (*reader).one), ofOne, int(op))
}

// nested: what stands within the token at which it stands.
func (r *reader) nested(sum []int, read func(r *reader, sum []int) []int) []int {
	r.room()
	r.step()
	r.depth++
	sum = read(r, sum)
	r.depth--
	return sum
}

// valueOf a sum, over the values of the variables.
func valueOf(sum, values []int) int {
	stack := make([]int32, 0, len(sum)/2)
	for i := 0; i < len(sum); i += 2 {
		n, top := sum[i+1], len(stack)-1
		switch sum[i] {
		case aNumber:
			stack = append(stack, int32(n))
		case aVariable:
			stack = append(stack, int32(values[n]))
		case ofTwo:
			stack[top-1] = madeOf(api.Op(n), stack[top-1], stack[top])
			stack = stack[:top]
		case ofOne:
			stack[top] = madeOf(api.Op(n), stack[top], 0)
		}
	}
	return int(stack[0])
}

// madeOf: what an operator makes of two numbers, or of the first of them.
func madeOf(op api.Op, a, b int32) int32 {
	switch op {
	case api.Plus:
		return a + b
	case api.Minus:
		return a - b
	case api.Times:
		return a * b
	case api.Neg:
		return -a
	}
	if holds(op, a, b) {
		return 1
	}
	return 0
}

func holds(op api.Op, a, b int32) bool {
	switch op {
	case api.Less:
		return a < b
	case api.Most:
		return a <= b
	case api.Same:
		return a == b
	case api.Other:
		return a != b
	case api.More:
		return a > b
	case api.Least:
		return a >= b
	case api.And:
		return a != 0 && b != 0
	case api.Or:
		return a != 0 || b != 0
	}
	return a == 0 // Not
}
