package mission_test

import (
	"math"
	"slices"
	"strings"
	"testing"

	"farhail/api"
	"farhail/deliver"
	"farhail/memory"
)

// TestExamples of the chapter, on board.
func TestExamples(t *testing.T) {
	c := piloted(t, plan())
	c.saw(c.tick("W\x00\x03\x00\x00\x00\x05"), "DW")
	if five, _ := memory.Code(5); c.board.Codes[3] != five {
		t.Error(c.board.Codes)
	}
	c.saw(c.tick("R\x00\x03"), "R\x00\x03\x00\x00\x00\x05", "DR")
	was := c.board
	c.saw(c.tick("L"), "DL")
	if !same(c.board.Vigil, was.Vigil) || !same(c.board.Values, was.Values) {
		t.Error(c.board)
	}
}

// refusal: the event of a command that is refused.
func refusal(e api.Errno, body string) string { return string([]byte{'X', byte(e), body[0]}) }

// TestWrongForms: letters that are none, and other lengths than those of the chapter; nothing comes of them.
func TestWrongForms(t *testing.T) {
	c := piloted(t, plan())
	var bodies []string
	for letter := range 256 {
		if !strings.ContainsRune("SVLWRFN", rune(letter)) || letter > 127 {
			bodies = append(bodies, string([]byte{byte(letter)}), string([]byte{byte(letter), 0, 0, 0, 0, 0, 0}))
		}
	}
	for letter, long := range map[string]int{"V": 6, "L": 1, "W": 7, "R": 3, "F": 7} {
		for n := 1; n < 20; n++ {
			if n != long {
				bodies = append(bodies, letter+strings.Repeat("\x00", n-1))
			}
		}
		bodies = append(bodies, letter+strings.Repeat("\x00", 999))
	}
	slices.Sort(bodies)
	bodies = append(bodies, "N", "N\x05", "N\x07\x00\x07\x00", "N\x05\x00\x07\x01", "N\x05\x00\x07\x00\x00", "N"+strings.Repeat("\x02", 999))
	was := c.board
	for _, body := range bodies {
		c.saw(c.tick(body), refusal(api.ErrForm, body))
	}
	if !same(c.board.Values, was.Values) || !same(c.board.Codes, was.Codes) || !same(c.board.Crew, was.Crew) || len(c.board.Givers) > 0 || c.board.Vigil.Safe {
		t.Error(c.board)
	}
}

// TestVariables: all there are, by numbers with a sign.
func TestVariables(t *testing.T) {
	c := piloted(t, plan())
	for body, n := range map[string]int{
		"V\x01\x00\x00\x00\x09": 9, "V\x01\x01\x02\x03\x04": 0x01020304, "V\x01\xff\xff\xff\xfe": -2,
		"V\x01\x80\x00\x00\x00": math.MinInt32, "V\x01\x7f\xff\xff\xff": math.MaxInt32,
	} {
		c.saw(c.tick(body), "DV")
		if c.board.Values[1] != n {
			t.Errorf("%q: %v", body, c.board.Values)
		}
	}
	// One that is measured is so only up to the next tick.
	c.inputs[0] = 30
	c.saw(c.tick("V\x00\x00\x00\x00\x11"), "DV")
	if c.board.Values[0] != 17 {
		t.Error(c.board.Values)
	}
	c.tick()
	if c.board.Values[0] != 30 {
		t.Error(c.board.Values)
	}
	was := c.board.Values
	for _, body := range []string{"V\x02\x00\x00\x00\x09", "V\xff\x00\x00\x00\x09", "V\x80\x00\x00\x00\x00"} {
		c.saw(c.tick(body), refusal(api.ErrRange, body))
	}
	if !same(c.board.Values, was) {
		t.Error(c.board.Values)
	}
}

// TestWords that are stored and told.
func TestWords(t *testing.T) {
	c := piloted(t, planWith(func(p *api.Plan) { p.Scrub, p.Words = 0, 300 }))
	for _, at := range []string{"\x00\x00", "\x00\x03", "\x00\xff", "\x01\x00", "\x01\x2b"} {
		for _, n := range []string{"\x00\x00\x00\x00", "\x01\x02\x03\x04", "\xff\xff\xff\xff", "\x80\x00\x00\x01"} {
			c.saw(c.tick("W"+at+n, "R"+at), "DW", "R"+at+n, "DR")
			i, word := int(at[0])<<8|int(at[1]), int(n[0])<<24|int(n[1])<<16|int(n[2])<<8|int(n[3])
			if code, _ := memory.Code(word); c.board.Codes[i] != code {
				t.Error(at, n, c.board.Codes[i])
			}
			// A wrong bit is told as if it were right, and stays; two are told.
			c.board.Codes[i] ^= 1 << 20
			was := c.board.Codes[i]
			c.saw(c.tick("R"+at), "R"+at+n, "DR")
			c.saw(c.tickWith(c.up("R"+at), api.Hit{Word: i, Bit: 3}), refusal(api.ErrWord, "R"))
			if c.board.Codes[i] != was^1<<3 {
				t.Error(at, n, c.board.Codes[i])
			}
		}
	}
	was := c.board.Codes
	for _, at := range []string{"\x01\x2c", "\x10\x00", "\xff\xff", "\x80\x00"} {
		c.saw(c.tick("W"+at+"\x00\x00\x00\x01", "R"+at), refusal(api.ErrRange, "W"), refusal(api.ErrRange, "R"))
	}
	if !same(c.board.Codes, was) {
		t.Error("something was stored")
	}
	// A word that was lost is a word again when it is stored.
	c.board.Codes[3] = 3
	c.saw(c.tick("R\x00\x03", "W\x00\x03\x00\x00\x00\x07", "R\x00\x03"), refusal(api.ErrWord, "R"), "DW", "R\x00\x03\x00\x00\x00\x07", "DR")
}

// quietly: as long as needs be nothing goes by its own will.
func quietly(p *api.Plan) { p.Scrub, p.Every, p.Burst = 0, api.MaxEvery, 1 }

// TestOffers of words as files.
func TestOffers(t *testing.T) {
	c := piloted(t, planWith(quietly))
	for i := range c.board.Codes {
		c.board.Codes[i], _ = memory.Code(0x01000000*i + 0x0a0b0c)
	}
	c.board.Codes[4] ^= 1 << 7 // a wrong bit, which stays
	was := slices.Clone(c.board.Codes)
	got := c.tick("F\x12\x34\x00\x03\x00\x02")
	c.saw(got, "DF")
	g, _ := deliver.Offer(0x1234, "mem", []byte{3, 10, 11, 12, 4, 10, 11, 12}, 8, 1, 6, 100)
	g, notes, _ := deliver.Give(g)
	meta, _ := deliver.Encode(notes[0])
	if !same(c.board.Givers, []api.Giver{g}) || !slices.Equal(got.notes, []string{string(meta)}) || !same(c.board.Codes, was) {
		t.Errorf("%+v %q", c.board.Givers, got.notes)
	}
	// All words, the last one, none (from any place on, the one behind the last too).
	c.saw(c.tick("F\x00\x01\x00\x00\x00\x10", "F\x00\x02\x00\x0f\x00\x01", "F\x00\x03\x00\x10\x00\x00"), "DF", "DF", "DF")
	var sizes, ids []int
	for _, g := range c.board.Givers {
		sizes, ids = append(sizes, len(g.File)), append(ids, g.ID)
	}
	if !slices.Equal(ids, []int{0x1234, 1, 2, 3}) || !slices.Equal(sizes, []int{8, 64, 4, 0}) {
		t.Error(ids, sizes)
	}
}

// TestOffersRefused: of several reasons the first one.
func TestOffersRefused(t *testing.T) {
	offer := func(id, at, n byte) string { return string([]byte{'F', 0, id, 0, at, 0, n}) }
	c := piloted(t, planWith(quietly))
	c.board.Codes[9] = 3
	refused := func(e api.Errno, body string) {
		t.Helper()
		was := c.board.Givers
		c.saw(c.tick(body), refusal(e, "F"))
		if len(c.board.Givers) != len(was) {
			t.Errorf("%q: %d givers", body, len(c.board.Givers))
		}
	}
	refused(api.ErrWord, offer(1, 9, 1))
	refused(api.ErrWord, offer(1, 0, 16))
	refused(api.ErrWord, offer(1, 9, 7))
	refused(api.ErrRange, offer(1, 9, 8))
	refused(api.ErrRange, offer(1, 0, 17))
	refused(api.ErrRange, offer(1, 16, 1))
	refused(api.ErrRange, offer(1, 17, 0))
	refused(api.ErrRange, "F\x00\x01\xff\xff\xff\xff")
	refused(api.ErrRange, "F\x00\x01\x00\x00\x01\x00")
	refused(api.ErrRange, "F\x00\x01\x01\x00\x00\x01")
	c.saw(c.tick(offer(1, 10, 6)), "DF")
	refused(api.ErrTwice, offer(1, 10, 1))
	refused(api.ErrTwice, offer(1, 9, 1))
	refused(api.ErrTwice, offer(1, 99, 99))
	refused(api.ErrWord, offer(2, 9, 1))
	c.saw(c.tick("F\x01\x01\x00\x00\x00\x01", offer(2, 0, 9), offer(3, 0, 0)), "DF", "DF", "DF")
	refused(api.ErrTwice, offer(3, 9, 1))
	refused(api.ErrFull, offer(4, 0, 1))
	refused(api.ErrFull, offer(4, 9, 1))
	refused(api.ErrFull, offer(4, 16, 1))
}

// noteOf: a command of a note.
func noteOf(t *testing.T, n api.Note) string {
	t.Helper()
	b, e := deliver.Encode(n)
	if e != api.OK {
		t.Fatal(e)
	}
	return "N" + string(b)
}

// TestNotes that come to the givers.
func TestNotes(t *testing.T) {
	c := piloted(t, planWith(quietly))
	c.tick("F\x00\x05\x00\x00\x00\x03", "F\x00\x06\x00\x00\x00\x03")
	gaps := api.Note{Kind: api.Gaps, ID: 6, Gaps: [][2]int{{0, 0}, {2, 5}}}
	got := c.tick(noteOf(t, gaps))
	c.saw(got, "DN")
	// Of the Gaps the Meta goes once more in the same tick.
	again, _ := deliver.Encode(api.Note{Kind: api.Meta, ID: 6, Name: "mem", Size: 12})
	if len(got.notes) != 2 || got.notes[1] != string(again) || !same(c.board.Givers[1].Again, [][2]int{{2, 5}}) || len(c.board.Givers[0].Again) > 0 {
		t.Errorf("%q %+v", got.notes, c.board.Givers)
	}
	for body, e := range map[string]api.Errno{
		noteOf(t, api.Note{Kind: api.Done, ID: 7}):                   api.ErrName,
		noteOf(t, api.Note{Kind: api.End, ID: 0x500}):                api.ErrName,
		noteOf(t, api.Note{Kind: api.End, ID: 5}):                    api.ErrKind,
		noteOf(t, api.Note{Kind: api.Meta, ID: 5, Name: "x"}):        api.ErrKind,
		noteOf(t, api.Note{Kind: api.Piece, ID: 6, Data: []byte{1}}): api.ErrKind,
		noteOf(t, api.Note{Kind: api.Done, ID: 6}) + "\x00":          api.ErrForm,
		"N": api.ErrForm,
	} {
		c.saw(c.tick(body), refusal(e, "N"))
	}
	c.saw(c.tick(noteOf(t, api.Note{Kind: api.Seen, ID: 5, Of: api.End})), "DN")
}

// TestDone: a giver that is Over or Failed by a note is taken out in the same tick, without having gone on; what went at once is told.
func TestDone(t *testing.T) {
	for code, event := range map[api.Errno]string{api.OK: "G\x01\x06", api.ErrSum: "B\x01\x06"} {
		c := piloted(t, planWith(quietly))
		c.tick("F\x00\x05\x00\x00\x00\x03", "F\x01\x06\x00\x00\x00\x03", "F\x00\x07\x00\x00\x00\x03")
		others := []api.Giver{c.board.Givers[0], c.board.Givers[2]}
		done := noteOf(t, api.Note{Kind: api.Done, ID: 0x106, Code: code})
		// In the tick in which it ends it still has its ID; it hears no more, if it has failed.
		got := c.tick(done, "F\x01\x06\x00\x00\x00\x01", done)
		c.saw(got, "DN", refusal(api.ErrTwice, "F"), "DN", event)
		seen, _ := deliver.Encode(api.Note{Kind: api.Seen, ID: 0x106, Of: api.Done})
		want := []string{string(seen)}
		if code == api.OK {
			want = append(want, string(seen))
		}
		for i, g := range others {
			next, notes, _ := deliver.Give(g)
			b, _ := deliver.Encode(notes[0])
			others[i], want = next, append(want, string(b))
		}
		if !same(c.board.Givers, others) || !slices.Equal(got.notes, want) {
			t.Errorf("%v: %q, not %q; %+v", code, got.notes, want, c.board.Givers)
		}
		c.saw(c.tick("F\x01\x06\x00\x00\x00\x01"), "DF")
	}
}

// TestStarts by commands.
func TestStarts(t *testing.T) {
	c := piloted(t, plan())
	c.inputs[0] = 30
	c.saw(c.tick("Scool"), "DS")
	if len(c.board.Crew.Tasks) != 1 || c.board.Crew.Tasks[0].Places[0].Seq != 0 || len(c.acts) != 1 {
		t.Error(c.board.Crew, c.acts)
	}
	// Within this tick shut is done: it is not being done in the next one.
	c.saw(c.tick("Scool", "Sshut", "Sshut"), refusal(api.ErrTwice, "S"), "DS", refusal(api.ErrTwice, "S"))
	c.saw(c.tick("Sshut"), "DS")
	if c.board.Values[1] != 2 {
		t.Error(c.board.Values)
	}
	for _, body := range []string{"S", "Szz", "Scoo", "Scooly", "Scool ", "SCOOL", "S\x00", "Smode", "S" + strings.Repeat("x", 900)} {
		c.saw(c.tick(body), refusal(api.ErrName, "S"))
	}
}

// TestStartsInTheWay: Start's other errors.
func TestStartsInTheWay(t *testing.T) {
	p := plan()
	p.Text = "SEQUENCE low LEVEL 1 LIMIT 99 NEEDS fan: WAIT 9; END; SEQUENCE mid LEVEL 3 LIMIT 99 NEEDS fan: WAIT 9; END;" +
		"SEQUENCE also LEVEL 3 LIMIT 99 NEEDS fan: WAIT 9; END; SEQUENCE shut LEVEL 7 LIMIT 99: WAIT 9; END;"
	for i := range 16 {
		p.Text += "SEQUENCE s" + string(rune('a'+i)) + " LEVEL 0 LIMIT 99: WAIT 9; END;"
	}
	c := piloted(t, p)
	c.saw(c.tick("Slow", "Smid", "Slow", "Salso", "Smid"), "DS", "DS", refusal(api.ErrShut, "S"), refusal(api.ErrShut, "S"), refusal(api.ErrTwice, "S"))
	if !same(c.board.Crew.Tasks, []api.Task{{Places: []api.Place{{Seq: 1, At: 1}}, Left: 9, Age: 1}}) {
		t.Error(c.board.Crew)
	}
	for i := range 15 {
		c.saw(c.tick("Ss"+string(rune('a'+i))), "DS")
		c.board.Crew.Tasks[0].Left = 9
		for i := range c.board.Crew.Tasks {
			c.board.Crew.Tasks[i].Left = 9
		}
	}
	c.saw(c.tick("Ssp"), refusal(api.ErrFull, "S"))
	if len(c.board.Crew.Tasks) != api.MaxTasks {
		t.Error(len(c.board.Crew.Tasks))
	}
}
