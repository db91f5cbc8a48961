package mission_test

import (
	"slices"
	"testing"

	"farhail/api"
	"farhail/deliver"
	"farhail/keys"
	"farhail/mission"
)

// wide: a plan by which a note goes in one frame.
func wide() api.Plan {
	return planWith(func(p *api.Plan) { p.Size, p.Wait, p.Tries = 200, 3, 2 })
}

// station is a ground of a test: which notes it orders is read where they wait, or have gone up.
type station struct {
	*testing.T
	mast *mast
	desk api.Desk
}

func stationed(t *testing.T, p api.Plan) *station {
	t.Helper()
	return &station{T: t, mast: masted(t, p), desk: seated(t, p)}
}

// hear notes, as they come down in one tick; what is ordered for them.
func (s *station) hear(notes ...api.Note) (api.Sat, []api.Note) {
	s.Helper()
	for _, n := range notes {
		b, e := deliver.Encode(n)
		if e != api.OK {
			s.Fatal(e)
		}
		s.mast.tell(2, api.Notes, string(b), 150)
	}
	from := s.desk.Counter
	x := hears(s.T, s.mast.plan, s.desk, slices.Concat(s.mast.all()...))
	s.desk = x.Desk
	return x, s.ordered(from)
}

// ordered notes, from a counter on, as long as the hand has them.
func (s *station) ordered(from int) (l []api.Note) {
	s.Helper()
	for _, sealed := range slices.Concat(s.desk.Hand.Sent, s.desk.Hand.Asked) {
		_, body, _, e := keys.Open(ring(), sealed)
		counter := int(sealed[5])<<8 | int(sealed[6])
		if e != api.OK {
			s.Fatal(e)
		}
		if counter < from {
			continue
		}
		n, e := deliver.Decode(body[1:])
		if e != api.OK || body[0] != 'N' {
			s.Fatalf("%q: %v", body, e)
		}
		l = append(l, n)
	}
	return l
}

// ids of the takers.
func (s *station) ids() (l []int) {
	for _, t := range s.desk.Takers {
		l = append(l, t.ID)
	}
	return l
}

func meta(id int, name string, size int) api.Note {
	return api.Note{Kind: api.Meta, ID: id, Name: name, Size: size}
}

func piece(id, at int, data string) api.Note {
	return api.Note{Kind: api.Piece, ID: id, At: at, Data: []byte(data)}
}

func end(id int, file string) api.Note {
	return api.Note{Kind: api.End, ID: id, Size: len(file), Sum: deliver.Sum([]byte(file))}
}

func done(id int, code api.Errno) api.Note { return api.Note{Kind: api.Done, ID: id, Code: code} }

func seen(id int, of api.NoteKind) api.Note { return api.Note{Kind: api.Seen, ID: id, Of: of} }

// TestFileComes: in one tick, or note by note; it is told once, when it is whole.
func TestFileComes(t *testing.T) {
	notes := []api.Note{meta(7, "log", 5), piece(7, 0, "ab"), piece(7, 2, "cde"), end(7, "abcde")}
	want := []api.File{{ID: 7, Name: "log", Data: []byte("abcde")}}
	answer := []api.Note{seen(7, api.End), done(7, api.OK)}
	s := stationed(t, wide())
	x, up := s.hear(notes...)
	if !same(x.Files, want) || !same(up, answer) || len(x.Units) != 4 {
		t.Errorf("%v %v", x.Files, up)
	}
	if x, up = s.hear(end(7, "abcde")); len(x.Files) > 0 || !same(up, answer) {
		t.Errorf("%v %v", x.Files, up)
	}
	s = stationed(t, wide())
	for i, n := range notes {
		x, up = s.hear(n)
		if i < 3 && len(x.Files)+len(up) > 0 || i == 3 && (!same(x.Files, want) || !same(up, answer)) {
			t.Errorf("%d: %v %v", i, x.Files, up)
		}
	}
	// Whatever comes first makes a taker; the last piece may make it whole.
	s = stationed(t, wide())
	if x, up = s.hear(notes[3]); !same(up, []api.Note{seen(7, api.End), {Kind: api.Gaps, ID: 7, Gaps: [][2]int{{0, 0}, {0, 5}}}}) {
		t.Error(up)
	}
	s.hear(notes[2])
	s.hear(notes[0])
	if x, up = s.hear(notes[1]); !same(x.Files, want) || !same(up, answer[1:]) {
		t.Errorf("%v %v", x.Files, up)
	}
}

// TestFileNeverWhole: what is not what was given is not told.
func TestFileNeverWhole(t *testing.T) {
	s := stationed(t, wide())
	x, up := s.hear(meta(7, "log", 2), piece(7, 0, "ab"), end(7, "ac"))
	if len(x.Files) > 0 || !same(up, []api.Note{seen(7, api.End), done(7, api.ErrSum)}) || s.desk.Takers[0].Stage != api.Failed {
		t.Error(x.Files, up)
	}
	if x, up = s.hear(meta(8, "log", 3), piece(8, 0, "ab"), end(8, "ab")); len(x.Files) > 0 || !same(up[1:], []api.Note{done(8, api.ErrSum)}) {
		t.Error(x.Files, up)
	}
	if x, _ = s.hear(meta(9, "empty", 0), end(9, "")); !same(x.Files, []api.File{{ID: 9, Name: "empty"}}) {
		t.Error(x.Files)
	}
}

// TestTakersWait: each has its tick in each tick, that of its birth too; what goes goes in order, behind what goes at once.
func TestTakersWait(t *testing.T) {
	s := stationed(t, wide())
	s.hear(meta(7, "a", 3), end(7, "abc"), meta(8, "b", 3), end(8, "xyz"))
	for i, x := range s.desk.Takers {
		if x.Timer != 1 || x.ID != 7+i || x.Patience != 3 || x.Limit != 2 {
			t.Error(x)
		}
	}
	if _, up := s.hear(); len(up) > 0 {
		t.Error(up)
	}
	gaps := func(id int) api.Note { return api.Note{Kind: api.Gaps, ID: id, Gaps: [][2]int{{0, 3}}} }
	x, up := s.hear(meta(9, "c", 1), piece(9, 0, "z"), end(9, "z"))
	if !same(up, []api.Note{seen(9, api.End), done(9, api.OK), gaps(7), gaps(8)}) || !same(s.ids(), []int{7, 8, 9}) || len(x.Files) != 1 {
		t.Error(up)
	}
	// The one that is whole tells so till it is known; the others give up.
	var all []api.Note
	for range 20 {
		_, up := s.hear()
		all = append(all, up...)
	}
	if !same(all, []api.Note{done(9, api.OK), gaps(7), gaps(8), done(9, api.OK)}) {
		t.Error(all)
	}
	if s.desk.Takers[0].Stage != api.Failed || s.desk.Takers[2].Stage != api.Over {
		t.Error(s.desk.Takers)
	}
}

// TestNobodysNotes: what is no note, or none that makes a taker.
func TestNobodysNotes(t *testing.T) {
	s := stationed(t, wide())
	s.mast.tell(2, api.Notes, "\x09\x00\x01", 150)
	s.mast.tell(2, api.Notes, "\x01", 150)
	meta7, _ := deliver.Encode(meta(7, "a", 3))
	s.mast.tell(0, api.Events, string(meta7), 150)
	s.mast.tell(1, api.Reports, string(meta7), 150)
	gaps := api.Note{Kind: api.Gaps, ID: 1, Gaps: [][2]int{{0, 3}}}
	x, up := s.hear(gaps, done(2, api.OK), seen(3, api.Done), seen(4, api.End))
	if len(up)+len(x.Files)+len(s.desk.Takers) > 0 || len(x.Units) != 8 {
		t.Error(up, x.Files, s.desk.Takers, len(x.Units))
	}
	// To one that is there they come; those that it does not take do nothing.
	s.hear(meta(1, "a", 0), end(1, ""))
	was := s.desk.Takers[0]
	gaps.ID = 1
	_, up = s.hear(gaps, done(1, api.OK), done(1, api.ErrSum))
	was.Timer++
	if len(up) > 0 || !same(s.desk.Takers, []api.Taker{was}) {
		t.Error(up, s.desk.Takers)
	}
	s.hear(seen(1, api.Done))
	if s.desk.Takers[0].Tries != 2 || s.desk.Takers[0].Timer != 0 {
		t.Error(s.desk.Takers)
	}
}

// TestManyFiles: when there is no room, the first one that has ended makes some; if none has, nothing comes of the note.
func TestManyFiles(t *testing.T) {
	s := stationed(t, planWith(func(p *api.Plan) { p.Size, p.Wait, p.Tries = 200, 900, 2 }))
	s.hear(meta(1, "a", 3), piece(2, 0, "b"), end(3, "c"), meta(4, "d", 3))
	for _, n := range []api.Note{meta(5, "e", 0), piece(5, 0, "e"), end(5, "")} {
		if x, up := s.hear(n); len(up) > 0 || len(x.Units) != 1 || !slices.Equal(s.ids(), []int{1, 2, 3, 4}) {
			t.Error(up, s.ids())
		}
	}
	// The third one fails, then the second one is whole; a Seen makes no room.
	s.hear(meta(3, "c", 9))
	s.hear(meta(2, "b", 1), end(2, "b"), seen(5, api.End), done(5, api.OK))
	if !slices.Equal(s.ids(), []int{1, 2, 3, 4}) || s.desk.Takers[1].Stage != api.Over || s.desk.Takers[2].Stage != api.Failed {
		t.Error(s.desk.Takers)
	}
	x, up := s.hear(meta(5, "e", 0), end(5, ""))
	if !slices.Equal(s.ids(), []int{1, 3, 4, 5}) || !same(x.Files, []api.File{{ID: 5, Name: "e"}}) || len(up) != 2 {
		t.Error(s.ids(), x.Files, up)
	}
	s.hear(piece(6, 0, "f"))
	if !slices.Equal(s.ids(), []int{1, 4, 5, 6}) {
		t.Error(s.ids())
	}
	s.hear(end(7, "g"))
	if !slices.Equal(s.ids(), []int{1, 4, 6, 7}) {
		t.Error(s.ids())
	}
	s.hear(meta(8, "h", 3))
	if !slices.Equal(s.ids(), []int{1, 4, 6, 7}) {
		t.Error(s.ids())
	}
	// The first one of all makes room as well as others, in the tick in which it ends.
	s.hear(piece(1, 0, "xyz"), end(1, "xyz"), meta(8, "h", 3))
	if !slices.Equal(s.ids(), []int{4, 6, 7, 8}) {
		t.Error(s.ids())
	}
}

// TestNotesRefused: where no more can be ordered, nothing comes of a note, but all else goes on.
func TestNotesRefused(t *testing.T) {
	whole := []api.Note{meta(7, "log", 5), piece(7, 0, "abcde"), end(7, "abcde")}
	s := stationed(t, wide())
	s.desk.Hand.Halt = api.ErrEnd
	for range api.MaxAsked - 1 {
		s.desk, _ = mission.Order(s.mast.plan, s.desk, []byte("N\x05\x00\x01\x00"))
	}
	x, up := s.hear(whole...)
	if !same(up, []api.Note{seen(7, api.End)}) || len(x.Files) != 1 || s.desk.Counter != api.MaxAsked {
		t.Error(up, x.Files, s.desk.Counter)
	}
	s = stationed(t, wide())
	s.desk.Counter = api.MaxCounter
	if x, _ = s.hear(whole...); len(x.Files) != 1 || len(s.desk.Hand.Asked)+len(s.desk.Hand.Sent) > 0 || s.desk.Counter != api.MaxCounter || s.desk.Takers[0].Stage != api.Over {
		t.Error(x.Files, s.desk)
	}
	s = stationed(t, wide())
	s.desk.Counter = api.MaxCounter - 1
	if s.hear(whole...); len(s.desk.Hand.Sent) != 1 || s.desk.Counter != api.MaxCounter {
		t.Error(s.desk)
	}
}

// TestNotesGoUp: what is ordered for a file goes up in the same tick.
func TestNotesGoUp(t *testing.T) {
	s := stationed(t, wide())
	x, _ := s.hear(meta(7, "log", 1), piece(7, 0, "a"), end(7, "a"))
	if len(x.Up) != 2 || len(s.desk.Hand.Sent) != 2 {
		t.Error(len(x.Up))
	}
	want := ordered(t, api.Order{Craft: 5, Data: sealed(t, key(), 0, "N\x06\x00\x07\x03")})
	if !slices.Equal(x.Up[0], want) {
		t.Errorf("%x, not %x", x.Up[0], want)
	}
}
