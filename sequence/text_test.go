package sequence_test

import (
	"math/rand"
	"reflect"
	"regexp"
	"slices"
	"strconv"
	"strings"
	"testing"

	"farhail/api"
	"farhail/sequence"
)

// The slow way to tell what is wrong with a text: its tokens by a pattern, its form by a grammar that is asked which tokens can come next (Earley's way), all else by going along the row of tokens.

// piece of a text: what may stand in a grammar for it ("" for what can stand nowhere), its text, where it begins.
type piece struct {
	as, text string
	at       int
}

var (
	anyPiece = regexp.MustCompile(`(?s)[ \t\r\n]+|#[^\r\n]*|[A-Za-z][A-Za-z0-9_]*|[0-9]+|:=|<=|>=|<>|.`)
	between  = regexp.MustCompile(`^[ \t\r\n#]`)
	aName    = regexp.MustCompile(`^[a-z][a-z0-9_]{0,15}$`)
	aNumber  = regexp.MustCompile(`^[0-9]{1,9}$`)
	aFixed   = regexp.MustCompile(`^(SEQUENCE|LEVEL|LIMIT|NEEDS|WAIT|SEND|IF|THEN|ELSE|END|REPEAT|UNTIL|WITHIN|CALL|START|STOP|AND|OR|NOT|:=|<=|>=|<>|[<>=+*(),:;-])$`)
)

func pieces(text string) (l []piece) {
	for _, p := range anyPiece.FindAllStringIndex(text, -1) {
		s := text[p[0]:p[1]]
		switch {
		case between.MatchString(s):
		case aFixed.MatchString(s):
			l = append(l, piece{s, s, p[0]})
		case aName.MatchString(s):
			l = append(l, piece{"name", s, p[0]})
		case aNumber.MatchString(s):
			l = append(l, piece{"number", s, p[0]})
		default:
			l = append(l, piece{"", s, p[0]})
		}
	}
	return append(l, piece{"", "", len(text)})
}

// grammar of the chapter: what stands in great letters or is a sign is itself; a part in braces has a rule of its own.
const grammar = `
text =
text = text seq
seq = SEQUENCE name LEVEL number LIMIT number : list END ;
seq = SEQUENCE name LEVEL number LIMIT number NEEDS needs : list END ;
needs = name
needs = needs , name
list =
list = list stmt
stmt = WAIT number ;
stmt = SEND name ;
stmt = SEND name ( args ) ;
stmt = name := expr ;
stmt = IF expr THEN list END ;
stmt = IF expr THEN list ELSE list END ;
stmt = REPEAT number : list END ;
stmt = UNTIL expr WITHIN number END ;
stmt = UNTIL expr WITHIN number ELSE list END ;
stmt = CALL name ;
stmt = START name ;
stmt = STOP ;
args = expr
args = args , expr
expr = both
expr = expr OR both
both = than
both = both AND than
than = sum
than = sum < sum
than = sum <= sum
than = sum = sum
than = sum <> sum
than = sum > sum
than = sum >= sum
sum = prod
sum = sum + prod
sum = sum - prod
prod = one
prod = prod * one
one = NOT one
one = - one
one = number
one = name
one = ( expr )
`

// item is a rule of which so many parts have come, since a token.
type item struct{ rule, gone, since int }

// rules: each a row of what it is for and its parts.
func rules() (l [][]string) {
	for _, line := range strings.Split(strings.TrimSpace(grammar), "\n") {
		f := strings.Fields(line)
		l = append(l, append(f[:1:1], f[2:]...))
	}
	return l
}

// firstWrong: which token is the first that can't stand there; len(l), if all can.
func firstWrong(l []piece) int {
	g := rules()
	heads := map[string]bool{}
	for _, r := range g {
		heads[r[0]] = true
	}
	sets := [][]item{nil}
	put := func(i int, x item) {
		if !slices.Contains(sets[i], x) {
			sets[i] = append(sets[i], x)
		}
	}
	put(0, item{0, 0, 0})
	put(0, item{1, 0, 0})
	for i := range l {
		// A rule without parts may be done ahead of what it is for being asked: so once more, till nothing comes of it.
		for was := -1; was != len(sets[i]); {
			was = len(sets[i])
			for j := 0; j < len(sets[i]); j++ {
				x := sets[i][j]
				if parts := g[x.rule][1:]; x.gone < len(parts) {
					for k, r := range g {
						if heads[parts[x.gone]] && r[0] == parts[x.gone] {
							put(i, item{k, 0, i})
						}
					}
					continue
				}
				for _, y := range slices.Clone(sets[x.since]) {
					if parts := g[y.rule][1:]; y.gone < len(parts) && parts[y.gone] == g[x.rule][0] {
						put(i, item{y.rule, y.gone + 1, y.since})
					}
				}
			}
		}
		if i == len(l)-1 { // the end
			for _, x := range sets[i] {
				if g[x.rule][0] == "text" && x.gone == len(g[x.rule])-1 && x.since == 0 {
					return len(l)
				}
			}
			return i
		}
		sets = append(sets, nil)
		for _, x := range sets[i] {
			if parts := g[x.rule][1:]; x.gone < len(parts) && parts[x.gone] == l[i].as && !heads[l[i].as] {
				put(i+1, item{x.rule, x.gone + 1, x.since})
			}
		}
		if len(sets[i+1]) == 0 {
			return i
		}
	}
	return len(l)
}

// cost of a list: ticks and moves; as numbers that are great enough for a few loops in one another.
type cost struct{ long, work float64 }

func (c *cost) add(long, work float64) { c.long, c.work = c.long+long, c.work+work }

// block is what is open around a token: its first word, its number, whether its ELSE has come, what its lists cost.
type block struct {
	word  string
	n     float64
	two   bool
	lists [2]cost
	nests bool // whether it counts for what comes now
}

// walker goes along tokens that can stand where they stand.
type walker struct {
	names  []string
	seqs   []script
	costs  []cost
	own    script
	blocks []block
	moves  int
	// within an expression: what is open there, NOT and - as 1, ( as 2
	inner []int
	args  int
	head  bool
}

// now: the list that is being added to.
func (w *walker) now() *cost {
	b := &w.blocks[len(w.blocks)-1]
	if b.two {
		return &b.lists[1]
	}
	return &b.lists[0]
}

func (w *walker) depth() int {
	n := len(w.inner)
	for _, b := range w.blocks {
		if b.nests {
			n++
		}
	}
	return n
}

// operandOver: a number, a name or a ) came: what stood ahead of it as NOT or - is over.
func (w *walker) operandOver() {
	for len(w.inner) > 0 && w.inner[len(w.inner)-1] == 1 {
		w.inner = w.inner[:len(w.inner)-1]
	}
}

func (w *walker) place(name string) int {
	return slices.IndexFunc(w.seqs, func(s script) bool { return s.name == name })
}

// number of a token behind a word.
func inRange(word string, n int) bool {
	switch word {
	case "LEVEL":
		return n <= api.MaxLevel
	case "LIMIT":
		return n >= 1 && n <= api.MaxTicks
	case "WAIT", "WITHIN":
		return n >= 1 && n <= api.MaxRest
	case "REPEAT":
		return n >= 1 && n <= api.MaxRounds
	}
	return true
}

// take the token i, which can stand there: what is wrong with it?
func (w *walker) take(l []piece, i int) api.Errno {
	was := ""
	if i > 0 {
		was = l[i-1].as
	}
	p := l[i]
	operand := was == "number" || was == "name" || was == ")" // so a - here is one of two
	opens := p.as == "(" && !(was == "name" && i > 1 && l[i-2].as == "SEND")
	starts := p.as == "NOT" || p.as == "-" && !operand || opens || p.as == "number" || p.as == "name"
	// An argument begins behind SEND's (, and behind a comma of it.
	if w.args > 0 && starts && (was == "," || was == "(") && len(w.inner) == 0 && w.args > api.MaxArgs {
		return api.ErrSize
	}
	switch p.as {
	case "number":
		n, _ := strconv.Atoi(p.text)
		return w.number(was, n)
	case "name":
		return w.name(l, i, was)
	case "SEQUENCE":
		if len(w.seqs) == api.MaxSeqs {
			return api.ErrSize
		}
		w.own, w.moves, w.head = script{}, 0, true
		w.blocks = []block{{}}
	case ":":
		w.head = false
		w.blocks[len(w.blocks)-1].nests = len(w.blocks) > 1
	case "IF", "REPEAT", "UNTIL":
		if w.depth() >= api.MaxNest {
			return api.ErrSize
		}
		w.moves++
		w.blocks = append(w.blocks, block{word: p.as})
	case "THEN", "WITHIN":
		w.blocks[len(w.blocks)-1].nests = true
	case "ELSE":
		w.moves++
		w.blocks[len(w.blocks)-1].two = true
	case "WAIT", "SEND", ":=", "CALL", "START", "STOP":
		w.moves++
		w.now().add(0, 1)
	case "NOT", "-", "(":
		if p.as == "(" && !opens {
			w.args = 1
		} else if starts {
			if w.depth() >= api.MaxNest {
				return api.ErrSize
			}
			w.inner = append(w.inner, 1)
			if p.as == "(" {
				w.inner[len(w.inner)-1] = 2
			}
		}
	case ",":
		if !w.head {
			w.args++
		}
	case ")":
		if len(w.inner) == 0 {
			w.args = 0
		} else {
			w.inner = w.inner[:len(w.inner)-1]
			w.operandOver()
		}
	case "END":
		w.end()
	case ";":
		if was == "END" && len(w.blocks) == 0 {
			return w.whole()
		}
	}
	return api.OK
}

func (w *walker) number(was string, n int) api.Errno {
	if !inRange(was, n) {
		return api.ErrRange
	}
	switch was {
	case "LEVEL":
		w.own.level = n
	case "LIMIT":
		w.own.limit = n
	case "WAIT":
		w.now().add(float64(n), 0)
	case "REPEAT", "WITHIN":
		w.blocks[len(w.blocks)-1].n = float64(n)
	default:
		w.operandOver()
	}
	return api.OK
}

func (w *walker) name(l []piece, i int, was string) api.Errno {
	s := l[i].text
	switch {
	case was == "SEQUENCE":
		if w.place(s) >= 0 {
			return api.ErrTwice
		}
		w.own.name = s
	case w.head:
		if slices.Contains(w.own.needs, s) {
			return api.ErrTwice
		}
		w.own.needs = append(w.own.needs, s)
	case was == "SEND":
	case was == "CALL" || was == "START":
		at := w.place(s)
		if at < 0 {
			return api.ErrName
		}
		if was == "START" {
			break
		}
		for _, need := range w.seqs[at].needs {
			if !slices.Contains(w.own.needs, need) {
				return api.ErrKind
			}
		}
		w.now().add(w.costs[at].long, w.costs[at].work)
	default:
		if !slices.Contains(w.names, s) {
			return api.ErrName
		}
		w.operandOver()
	}
	return api.OK
}

// end of a block: what it costs.
func (w *walker) end() {
	b := w.blocks[len(w.blocks)-1]
	if len(w.blocks) == 1 {
		w.blocks, w.costs = nil, append(w.costs[:len(w.seqs)], b.lists[0])
		return
	}
	w.blocks = w.blocks[:len(w.blocks)-1]
	jump := 0.0
	if b.two {
		jump = 1
	}
	one, two := b.lists[0], b.lists[1]
	switch b.word {
	case "IF":
		w.now().add(max(one.long, two.long), 1+jump+max(one.work, two.work))
	case "REPEAT":
		w.moves++
		w.now().add(b.n*one.long, 1+b.n*(1+one.work))
	case "UNTIL":
		w.now().add(b.n+two.long, 1+b.n+jump+two.work)
	}
}

// whole: at the end of a sequence.
func (w *walker) whole() api.Errno {
	c := w.costs[len(w.seqs)]
	if w.moves > api.MaxMoves {
		return api.ErrSize
	}
	if c.long+1 > float64(w.own.limit) || c.work > api.MaxWork {
		return api.ErrSlow
	}
	w.seqs = append(w.seqs, w.own)
	return api.OK
}

// slowFault: what is wrong with a text.
func slowFault(text string, names []string) api.Fault {
	seen := map[string]bool{}
	for _, s := range names {
		if len(names) > api.MaxNames || !aName.MatchString(s) || seen[s] {
			return api.Fault{Code: api.ErrPlan}
		}
		seen[s] = true
	}
	if len(text) > api.MaxText {
		return api.Fault{Code: api.ErrSize}
	}
	l := pieces(text)
	wrong := firstWrong(l)
	w := &walker{names: names}
	for i, p := range l {
		if i == wrong {
			return api.Fault{Code: api.ErrForm, At: p.at}
		}
		if e := w.take(l, i); e != api.OK {
			return api.Fault{Code: e, At: p.at}
		}
	}
	return api.Fault{}
}

// faults: is this what is wrong with a text? With a fault there is no book.
func faults(t *testing.T, text string, names []string, want api.Fault) {
	t.Helper()
	b, f := sequence.Load(text, names)
	if f != want {
		t.Errorf("%.300q: %v; wanted %v", text, f, want)
	}
	if f.Code != api.OK && len(b.Seqs) > 0 {
		t.Errorf("%.300q: a book beside a fault: %v", text, b)
	}
}

// body: a sequence of these statements.
func body(list string) string { return "SEQUENCE s LEVEL 1 LIMIT 100000 NEEDS x: " + list + " END;" }

// markedFaults: texts with one fault, at the byte at which the sign ^ stands.
func markedFaults(code api.Errno) []string {
	const ahead = "SEQUENCE r LEVEL 0 LIMIT 9: END; SEQUENCE q LEVEL 0 LIMIT 9 NEEDS y: END; "
	switch code {
	case api.ErrForm:
		return []string{
			"^END;", "SEQUENCE^", "SEQUENCE # s^", "^$", " ^s", "^Sequence", "^\x00", "^\xff", "^_a", "^\v", "^é", "^1", "^-", "# a\n^b", "# a\r^b", "^SEQUENCES",
			"SEQUENCE ^S LEVEL", "SEQUENCE ^sS LEVEL", "SEQUENCE ^7 LEVEL", "SEQUENCE ^abcdefghijklmnopq LEVEL", "SEQUENCE abcdefghijklmnop ^LIMIT", "SEQUENCE ^LEVEL", "SEQUENCE s ^: END;",
			"SEQUENCE s LEVEL 0 LIMIT 100000^", "SEQUENCE s LEVEL ^-1", "SEQUENCE s LEVEL ^0000000001", "SEQUENCE s LEVEL 000000001^", "SEQUENCE s LEVEL ^x", "SEQUENCE s LEVEL 1 LIMIT ^NEEDS",
			"SEQUENCE s LEVEL 1 LIMIT 5 NEEDS ^:", "SEQUENCE s LEVEL 1 LIMIT 5 NEEDS x ^y", "SEQUENCE s LEVEL 1 LIMIT 5 NEEDS x, ^: END;", "SEQUENCE s LEVEL 1 LIMIT 5 ^:= END;", "SEQUENCE s LEVEL 1 LIMIT 5 ^x: END;",
			"SEQUENCE s LEVEL 1 LIMIT 5: END^", "SEQUENCE s LEVEL 1 LIMIT 5: END ^END;", "SEQUENCE s LEVEL 1 LIMIT 5: END; ^;", "SEQUENCE s LEVEL 1 LIMIT 5:^", "SEQUENCE s LEVEL 1 LIMIT 5: ^SEQUENCE", "SEQUENCE s LEVEL 1 LIMIT 5: ^ELSE", "SEQUENCE s LEVEL 1 LIMIT 1: WAIT 7; END ^:",
			body("WAIT 10000 ^:"), body("WAIT ^a;"), body("WAIT ^1000000000;"), body("REPEAT 1000 ^;"), body("REPEAT 1: ^ELSE END;"), body("STOP ^x;"), body("CALL ^;"), body("START ^1;"), body("^THEN"), body("^WITHIN"),
			body("UNTIL 1 WITHIN 10000 END ^END"), body("UNTIL 1 WITHIN 1 ^SEND x; END;"), body("UNTIL 1 WITHIN 1 ^: END;"), body("UNTIL 1 ^END;"), body("UNTIL 1 WITHIN 1 ELSE ^ELSE END;"),
			body("IF 1 ^: END;"), body("IF ^THEN END;"), body("IF 1 THEN ELSE ^ELSE END;"), body("IF 1 THEN END ^WAIT"), body("IF 1 ^WITHIN"),
			body("SEND x(^);"), body("SEND x(1,^);"), body("SEND x(1 ^2);"), body("SEND x ^1;"), body("SEND ^STOP;"), body("SEND x(1, 2, 3, 4, ^*);"), body("SEND x(1, 2, 3, 4, ^);"), body("SEND x(1, 2, 3, 4 ^;"), body("SEND x^, y;"),
			body("a ^= 1;"), body("a := ^;"), body("a := 1 < 2 ^< 3;"), body("a := 1 <= ^= 3;"), body("a := 1 < ^> 3;"), body("a := (1 ^;"), body("a := 1^);"), body("a := 1 ^NOT 1;"), body("a := 1 + ^+ 1;"), body("a := ^:= 1;"), body("a := 1 AND ^AND 1"), body("a := 1 ^2;"), body("a := 1^b;"), body("a := ^1234567890;"), body("a := 123456789 ^$"), body("a ^(1);"), body("a := b^(1);"), body("a := 1 ^/ 2;"), body("a := 1 ^! 2;"),
		}
	case api.ErrSize:
		return []string{
			body("SEND x(1, 2, 3, 4, ^5);"), body("SEND x(1, 2, 3, 4, ^zz);"), body("SEND x(1, 2, 3, 4, ^(1));"), body("SEND x(1, 2, 3, 4, ^NOT 1);"), body("SEND x(1, 2, 3, 4, ^-);"), body("SEND x((1), 2 * (3), 3, 4, ^5);"),
		}
	case api.ErrTwice:
		return []string{
			"SEQUENCE s LEVEL 1 LIMIT 5 NEEDS x, y, ^x", "SEQUENCE s LEVEL 1 LIMIT 5: END; SEQUENCE ^s", ahead + "SEQUENCE ^r LEVEL 10", ahead + "SEQUENCE ^q",
		}
	case api.ErrName:
		return []string{
			body("a := 1 + ^d;"), body("^d := 1;"), body("^d;"), body("IF ^x THEN"), body("UNTIL ^s WITHIN"), body("SEND a(^heat);"), body("a := ^ab;"),
			ahead + body("CALL ^p;"), ahead + body("START ^p;"), ahead + body("CALL ^s;"), ahead + body("START ^s;"), ahead + body("START q; CALL r; CALL ^a;"), body("START ^t;") + "SEQUENCE t LEVEL 1 LIMIT 1: END;",
		}
	case api.ErrKind:
		return []string{ahead + body("CALL ^q;"), ahead + body("START q; CALL r; CALL ^q ;;"), body("") + "SEQUENCE t LEVEL 1 LIMIT 1: CALL ^s;", ahead + "SEQUENCE t LEVEL 1 LIMIT 5 NEEDS yy, z: CALL ^q;"}
	case api.ErrRange:
		return []string{
			"SEQUENCE s LEVEL ^10 LIMIT 0", "SEQUENCE s LEVEL ^999999999", "SEQUENCE s LEVEL 9 LIMIT ^0", "SEQUENCE s LEVEL 0 LIMIT ^100001",
			body("WAIT ^0;"), body("WAIT ^10001;"), body("REPEAT ^0: END;"), body("REPEAT ^1001: END;"), body("UNTIL 1 WITHIN ^0 END;"), body("UNTIL 1 WITHIN ^10001 END;"),
		}
	case api.ErrSlow:
		return []string{
			"SEQUENCE s LEVEL 1 LIMIT 8: WAIT 8; END^;", "SEQUENCE s LEVEL 1 LIMIT 1: UNTIL a WITHIN 1 END; END ^; WAIT", "SEQUENCE s LEVEL 1 LIMIT 9: UNTIL a WITHIN 4 ELSE WAIT 5; END; END^;", "SEQUENCE s LEVEL 1 LIMIT 9: IF a THEN WAIT 9; ELSE WAIT 1; END; END^;", "SEQUENCE s LEVEL 1 LIMIT 9: IF a THEN WAIT 1; ELSE WAIT 9; END; END^;", "SEQUENCE s LEVEL 1 LIMIT 9: REPEAT 3: WAIT 3; END; END^;",
			"SEQUENCE s LEVEL 1 LIMIT 9: WAIT 8; END; SEQUENCE t LEVEL 1 LIMIT 9: CALL s; WAIT 1; END^;", "SEQUENCE s LEVEL 1 LIMIT 9: REPEAT 1000: REPEAT 98: END; END; END^;", "SEQUENCE s LEVEL 1 LIMIT 100000: REPEAT 10: WAIT 10000; END; END^;",
		}
	}
	return nil
}

func TestFaults(t *testing.T) {
	names := []string{"a", "b"}
	for code := api.ErrSize; code <= api.ErrPlan; code++ {
		for _, m := range markedFaults(code) {
			text, want := strings.Replace(m, "^", "", 1), api.Fault{Code: code, At: strings.Index(m, "^")}
			faults(t, text, names, want)
			if slow := slowFault(text, names); slow != want {
				t.Errorf("%q: the slow way tells %v; wanted %v", text, slow, want)
			}
		}
	}
}

// TestNames: of the variables, ahead of whatever is wrong with the text.
func TestNames(t *testing.T) {
	many := make([]string, api.MaxNames+1)
	for i := range many {
		many[i] = "v" + strconv.Itoa(i)
	}
	long := strings.Repeat(" ", api.MaxText+1)
	for _, l := range [][]string{nil, {}, {"a"}, {"a", "b"}, {"a_1", "a_", "a1"}, {"abcdefghijklmnop"}, {"z"}, many[:api.MaxNames]} {
		faults(t, "", l, api.Fault{})
		faults(t, "SEQUENCE", l, api.Fault{Code: api.ErrForm, At: 8})
		faults(t, long, l, api.Fault{Code: api.ErrSize})
	}
	for _, l := range [][]string{{"a", "a"}, {"a", "b", "a"}, {""}, {"A"}, {"aB"}, {"1"}, {"1a"}, {"_a"}, {"a b"}, {"a "}, {" a"}, {"a#"}, {"a-b"}, {"é"}, {"a\xff"}, {"abcdefghijklmnopq"}, {"IF"}, {"a", "b", "c:"}, {"a\n"}, {"a", ""}, many} {
		for _, text := range []string{"", "SEQUENCE", long} {
			faults(t, text, l, api.Fault{Code: api.ErrPlan})
		}
	}
}

// TestSizes: just as much as there may be, and one more.
func TestSizes(t *testing.T) {
	names := []string{"a"}
	faults(t, strings.Repeat(" ", api.MaxText), names, api.Fault{})
	faults(t, strings.Repeat(" ", api.MaxText-1)+"$", names, api.Fault{Code: api.ErrForm, At: api.MaxText - 1})
	faults(t, strings.Repeat("$", api.MaxText+1), names, api.Fault{Code: api.ErrSize})

	text := ""
	for i := range api.MaxSeqs {
		text += "SEQUENCE s" + strconv.Itoa(i) + " LEVEL 0 LIMIT 1: END;"
	}
	faults(t, text, names, api.Fault{})
	faults(t, text+" SEQUENCE", names, api.Fault{Code: api.ErrSize, At: len(text) + 1})
	faults(t, text+" WAIT", names, api.Fault{Code: api.ErrForm, At: len(text) + 1})

	for _, c := range []struct {
		stmt, end string
		moves     int
	}{{"STOP;", "", 1}, {"WAIT 1;", "", 1}, {"IF 1 THEN ELSE END;", "", 2}, {"REPEAT 1: END;", "", 2}, {"UNTIL 1 WITHIN 1 ELSE END;", "", 2}} {
		text := body(strings.Repeat(c.stmt, api.MaxMoves/c.moves))
		faults(t, text, names, api.Fault{})
		text = body(strings.Repeat(c.stmt, api.MaxMoves/c.moves) + "STOP;")
		faults(t, text, names, api.Fault{Code: api.ErrSize, At: len(text) - 1})
	}
	// Too many moves are told ahead of too many ticks.
	text = strings.Replace(body(strings.Repeat("WAIT 1;", api.MaxMoves+1)), "100000", "1", 1)
	faults(t, text, names, api.Fault{Code: api.ErrSize, At: len(text) - 1})
}

// TestNests: what nests may stand within seven others, and within eight not.
func TestNests(t *testing.T) {
	names := []string{"a"}
	opens := []struct{ open, shut string }{
		{"IF a THEN ", "END;"}, {"IF a THEN ELSE ", "END;"}, {"REPEAT 1: ", "END;"}, {"UNTIL a WITHIN 1 ELSE ", "END;"},
	}
	signs := []struct{ open, shut string }{{"NOT ", ""}, {"-", ""}, {"(", ")"}, {"(1 + ", ") * 2"}}
	r := rand.New(rand.NewSource(110))
	for range 2000 {
		text, end, nest := "SEQUENCE s LEVEL 1 LIMIT 100000: ", "END;", r.Intn(api.MaxNest+2)
		in := r.Intn(nest + 1)
		for range in {
			o := opens[r.Intn(len(opens))]
			text, end = text+o.open, o.shut+end
		}
		text += []string{"a := ", "SEND x(1, "}[in%2]
		end = []string{"", ")"}[in%2] + ";" + end
		for range nest - in {
			o := signs[r.Intn(len(signs))]
			text, end = text+o.open, o.shut+end
		}
		whole := text + "a" + end
		want := slowFault(whole, names)
		faults(t, whole, names, want)
		if wrong := nest > api.MaxNest; wrong != (want.Code == api.ErrSize) {
			t.Fatalf("%q: %d within one another: %v", whole, nest, want)
		}
	}
	// An expression does not stand within its own IF or UNTIL.
	for _, s := range []string{"IF ((((((((1)))))))) THEN END;", "UNTIL ((((((((1)))))))) WITHIN 1 END;", "SEND x(((((((((1)))))))));", "a := - - NOT - - - - -1 + - - - - - - - -1;"} {
		faults(t, body(s), names, api.Fault{})
		text := strings.Replace(strings.Replace(body(s), "1)", "-1)", 1), "-1 +", "- -1 +", 1)
		if _, f := sequence.Load(text, names); f.Code != api.ErrSize || slowFault(text, names) != f {
			t.Errorf("%q: %v", text, f)
		}
	}
	text := body("REPEAT 1: IF ((((((((1)))))))) THEN END; END;")
	faults(t, text, names, api.Fault{Code: api.ErrSize, At: strings.Index(text, "(1")})
}

// spoilt: a few tokens taken out, put in, changed or moved.
func spoilt(r *rand.Rand, tokens []string) []string {
	l := slices.Clone(tokens)
	some := strings.Fields("SEQUENCE LEVEL LIMIT NEEDS WAIT SEND IF THEN ELSE END REPEAT UNTIL WITHIN CALL START STOP AND OR NOT := <= >= <> < > = + - * ( ) , : ; 0 1 5 1001 1234567890 a b c_1 s0 s1 x zz Ab $")
	for range 1 + r.Intn(2) {
		if len(l) == 0 {
			break
		}
		i, j := r.Intn(len(l)), r.Intn(len(l))
		switch r.Intn(9) {
		case 0:
			l = slices.Delete(l, i, i+1)
		case 1:
			l = slices.Insert(l, i, some[r.Intn(len(some))])
		case 2:
			l[i] = some[r.Intn(len(some))]
		case 3:
			l[i], l[j] = l[j], l[i]
		case 4:
			l = l[:i]
		case 5:
			l = slices.Insert(l, i, l[min(i, j):min(i+3, max(i, j))]...)
		case 6, 7:
			l = slightly(r, l)
		case 8:
			if at := slices.Index(l[i:], ")"); at >= 0 {
				l = slices.Insert(l, i+at, ",", "1", ",", "b", ",", "-", "2", ",", "(", "3", ")")
			}
		}
	}
	return l
}

// slightly spoilt: a name or a number is another one; or much stands ahead of it.
func slightly(r *rand.Rand, l []string) []string {
	var places []int
	for i, s := range l {
		if aName.MatchString(s) || aNumber.MatchString(s) {
			places = append(places, i)
		}
	}
	if len(places) == 0 {
		return l
	}
	i := places[r.Intn(len(places))]
	if aName.MatchString(l[i]) {
		l[i] = strings.Fields("a b c_1 s0 s1 s2 x y zz")[r.Intn(9)]
	} else {
		l[i] = strings.Fields("0 1 9 10 1000 1001 10000 10001 100000 100001 999999999")[r.Intn(11)]
	}
	if r.Intn(4) == 0 {
		l = slices.Insert(l, i, strings.Fields("- NOT - NOT - - NOT - -")[:5+r.Intn(5)]...)
	}
	return l
}

// TestSpoilt: texts of all kinds, wrong ones and right ones, are told as the slow way tells them.
func TestSpoilt(t *testing.T) {
	d := newDrawer(111)
	count := map[api.Errno]int{}
	for range 1500 {
		var tokens []string
		for _, s := range d.scripts(3) {
			if d.Intn(3) == 0 {
				s.limit = 1 + d.Intn(40)
			}
			tokens = append(tokens, s.tokens(d.Rand)...)
		}
		if len(tokens) > 250 { // the slow way is slow
			continue
		}
		if d.Intn(8) > 0 {
			tokens = spoilt(d.Rand, tokens)
		}
		text := written(d.Rand, tokens)
		want := slowFault(text, d.names)
		count[want.Code]++
		faults(t, text, d.names, want)
	}
	for _, e := range []api.Errno{api.OK, api.ErrForm, api.ErrName, api.ErrKind, api.ErrRange, api.ErrSlow, api.ErrTwice, api.ErrSize} {
		if count[e] == 0 {
			t.Errorf("%v was never drawn: %v", e, count)
		}
	}
}

// TestBytes: one byte of a text is changed to any other.
func TestBytes(t *testing.T) {
	d := newDrawer(112)
	const text = "SEQUENCE s LEVEL 1 LIMIT 9 NEEDS x: a := b<=1+2; WAIT 3; END;"
	for i := range len(text) {
		for c := range 256 {
			s := text[:i] + string([]byte{byte(c)}) + text[i+1:]
			faults(t, s, d.names, slowFault(s, d.names))
		}
	}
}

// TestTokens: what may stand between tokens, and what need not.
func TestTokens(t *testing.T) {
	names := []string{"a", "b"}
	want, f := sequence.Load("SEQUENCE s LEVEL 1 LIMIT 9 NEEDS x , y : a := 1 <= 2 - 3 ; WAIT 4 ; IF b <> 5 THEN END ; END ;", names)
	if f.Code != api.OK {
		t.Fatal(f)
	}
	for _, s := range []string{
		"SEQUENCE s LEVEL 1LIMIT 9NEEDS x,y:a:=1<=2-3;WAIT 4;IF b<>5THEN END;END;",
		"\tSEQUENCE\ts\nLEVEL\r1\r\nLIMIT 9 NEEDS x,y:a:=1<=2-3;WAIT 4;IF b<>5 THEN END;END;# over",
		"# first\n#\nSEQUENCE#s\ns#t\rLEVEL 1#\r\nLIMIT 9 NEEDS x,y:a:=1<=2-3;WAIT 4;IF b<>5 THEN END;END;#\n",
		"SEQUENCE s LEVEL 000000001 LIMIT 09 NEEDS x,y:a:=01<=2-3;WAIT 04;IF b<>000000005 THEN END;END;",
	} {
		if b, f := sequence.Load(s, names); f.Code != api.OK || !reflect.DeepEqual(b, want) {
			t.Errorf("%q: %v %v", s, b, f)
		}
	}
}
