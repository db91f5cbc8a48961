package deliver_test

import (
	"bytes"
	"math"
	"math/rand"
	"slices"
	"strings"
	"testing"

	"farhail/api"
	"farhail/deliver"
)

// offered: what has to go well.
func offered(t *testing.T, id int, name string, file []byte, most, burst, patience, limit int) api.Giver {
	t.Helper()
	g, e := deliver.Offer(id, name, file, most, burst, patience, limit)
	if e != api.OK {
		t.Fatalf("Offer %d %q %d bytes %d %d %d %d: %v", id, name, len(file), most, burst, patience, limit, e)
	}
	return g
}

func TestOffer(t *testing.T) {
	g := offered(t, 7, "log", []byte{1, 2, 3}, 4, 5, 6, 8)
	want := api.Giver{ID: 7, Name: "log", File: []byte{1, 2, 3}, Most: 4, Burst: 5, First: true, Patience: 6, Limit: 8}
	if told(g) != told(want) {
		t.Errorf("%+v", g)
	}
	least := offered(t, 0, "\xff", nil, 1, 1, 1, 1)
	if told(least) != told(api.Giver{Name: "\xff", Most: 1, Burst: 1, First: true, Patience: 1, Limit: 1}) {
		t.Errorf("%+v", least)
	}
	file := bytes.Repeat([]byte{3}, 65536)
	most := offered(t, 65535, strings.Repeat("n", 32), file, 1024, 50, 1000, 100)
	want = api.Giver{ID: 65535, Name: strings.Repeat("n", 32), File: file, Most: 1024, Burst: 50, First: true, Patience: 1000, Limit: 100}
	if told(most) != told(want) {
		t.Error("the greatest giver is another one")
	}
}

func TestOfferRefuses(t *testing.T) {
	refused := func(want api.Errno, id int, name string, file []byte, most, burst, patience, limit int) {
		t.Helper()
		g, e := deliver.Offer(id, name, file, most, burst, patience, limit)
		if e != want || told(g) != told(api.Giver{}) {
			t.Errorf("%d %q %d bytes %d %d %d %d: %+v %v", id, name, len(file), most, burst, patience, limit, g, e)
		}
	}
	long, much := strings.Repeat("n", 33), make([]byte, 65537)
	for _, name := range []string{"log", "", long} {
		for _, n := range far(0, 65535) {
			refused(api.ErrRange, n, name, much, 1, 1, 1, 1)
		}
		for _, n := range far(1, 1024) {
			refused(api.ErrRange, 1, name, nil, n, 1, 1, 1)
		}
		for _, n := range far(1, 50) {
			refused(api.ErrRange, 1, name, nil, 1, n, 1, 1)
		}
		for _, n := range far(1, 1000) {
			refused(api.ErrRange, 1, name, much, 1, 1, n, 1)
		}
		for _, n := range far(1, 100) {
			refused(api.ErrRange, 1, name, nil, 1, 1, 1, n)
		}
	}
	refused(api.ErrSize, 1, "", nil, 1, 1, 1, 1)
	refused(api.ErrSize, 1, long, nil, 1, 1, 1, 1)
	refused(api.ErrSize, 1, "log", much, 1, 1, 1, 1)
}

// drawnGiver that may be.
func drawnGiver(r *rand.Rand) api.Giver {
	file := some(r, one(r, 0, 1, r.Intn(30)))
	g := api.Giver{ID: r.Intn(3), Name: "log", File: file, Most: 1 + r.Intn(9), Burst: 1 + r.Intn(5),
		Stage: api.Stage(r.Intn(5)), At: len(file), Patience: 1 + r.Intn(4), Limit: 1 + r.Intn(3)}
	if g.Stage == api.Going {
		g.First, g.At = r.Intn(2) == 0, r.Intn(len(file)+1)
	}
	for range r.Intn(4) {
		gap := drawnGap(r, len(file))
		if gapMayBe(gap, len(file)) {
			g.Again = append(g.Again, gap)
		}
	}
	g.Timer, g.Tries = r.Intn(g.Patience), r.Intn(g.Limit+1)
	return g
}

// slowGiverMayBe, by the words of the chapter.
func slowGiverMayBe(g api.Giver) bool {
	size := len(g.File)
	ok := in(g.ID, 0, 65535) && in(g.Most, 1, 1024) && in(g.Burst, 1, 50) && in(g.Patience, 1, 1000) && in(g.Limit, 1, 100)
	ok = ok && in(len(g.Name), 1, 32) && size <= 65536
	ok = ok && in(int(g.Stage), 0, 4) && in(g.At, 0, size)
	if g.Stage != api.Going {
		ok = ok && g.At == size && !g.First
	}
	for _, s := range g.Again {
		ok = ok && gapMayBe(s, size)
	}
	return ok && len(g.Again) <= 1000 && in(g.Timer, 0, g.Patience-1) && in(g.Tries, 0, g.Limit)
}

// copied: a giver that may be changed.
func copied(g api.Giver) api.Giver {
	g.File, g.Again = slices.Clone(g.File), slices.Clone(g.Again)
	return g
}

// slowPiece of a giver's file.
func slowPiece(g api.Giver, begin, end int) api.Note {
	n := api.Note{Kind: api.Piece, ID: g.ID, At: begin}
	for i := begin; i < end && i < begin+g.Most; i++ {
		n.Data = append(n.Data, g.File[i])
	}
	return n
}

// slowGive of a giver that may be.
func slowGive(g api.Giver) (api.Giver, []api.Note) {
	g = copied(g)
	if g.Stage == api.Over || g.Stage == api.Failed {
		return g, nil
	}
	var out []api.Note
	meta := api.Note{Kind: api.Meta, ID: g.ID, Name: g.Name, Size: len(g.File)}
	end := api.Note{Kind: api.End, ID: g.ID, Size: len(g.File), Sum: slowSum(g.File)}
	began := g.Stage
notes:
	for range g.Burst {
		switch {
		case g.First:
			out, g.First = append(out, meta), false
		case len(g.Again) > 0 && g.Again[0] == span{0, 0}:
			out, g.Again = append(out, meta), g.Again[1:]
		case len(g.Again) > 0:
			n := slowPiece(g, g.Again[0][0], g.Again[0][1])
			out = append(out, n)
			if g.Again[0][0] += len(n.Data); g.Again[0][0] == g.Again[0][1] {
				g.Again = g.Again[1:]
			}
		case g.Stage == api.Going && g.At < len(g.File):
			n := slowPiece(g, g.At, len(g.File))
			out, g.At = append(out, n), g.At+len(n.Data)
		case g.Stage == api.Going:
			out, g.Stage, g.Timer, g.Tries = append(out, end), api.Asking, 0, 0
			break notes
		}
	}
	if began == api.Going {
		return g, out
	}
	if g.Timer++; g.Timer == g.Patience {
		g.Timer = 0
		if g.Tries++; g.Tries > g.Limit {
			g.Tries, g.Stage = g.Limit, api.Failed
		} else {
			out = append(out, end)
		}
	}
	return g, out
}

// slowReply of a giver that may be.
func slowReply(g api.Giver, n api.Note) (api.Giver, []api.Note, api.Errno) {
	g = copied(g)
	switch {
	case !slowMayBe(n):
		return g, nil, api.ErrForm
	case n.ID != g.ID:
		return g, nil, api.ErrName
	case n.Kind < api.Gaps:
		return g, nil, api.ErrKind
	}
	var out []api.Note
	was := g.Stage
	if was == api.Failed {
		return g, nil, api.OK
	}
	if n.Kind == api.Done {
		out = append(out, api.Note{Kind: api.Seen, ID: g.ID, Of: api.Done})
	}
	if was == api.Over {
		return g, out, api.OK
	}
	if n.Kind == api.Done {
		g.Stage = map[api.Errno]api.Stage{api.OK: api.Over, api.ErrSum: api.Failed}[n.Code]
		g.Again, g.First, g.At = nil, false, len(g.File)
		return g, out, api.OK
	}
	g.Timer, g.Tries = 0, 0
	if n.Of == api.End && was == api.Asking {
		g.Stage = api.Open
	}
	for _, s := range n.Gaps {
		var lies []span
		for i := s[0]; i < s[1] && i < len(g.File); i++ {
			lies = []span{{s[0], i + 1}}
		}
		if s == (span{0, 0}) {
			lies = []span{s}
		}
		g.Again = append(g.Again, lies...)
		g.Again = g.Again[:min(len(g.Again), 1000)]
	}
	return g, out, api.OK
}

func TestGive(t *testing.T) {
	r := rand.New(rand.NewSource(95))
	for range 20000 {
		was := drawnGiver(r)
		g, l, e := deliver.Give(was)
		want, notes := slowGive(was)
		if told(g, l, e) != told(want, notes, api.OK) {
			t.Fatalf("%+v: %+v %+v %v, not %+v %+v", was, g, l, e, want, notes)
		}
	}
}

// drawnFor: a note, most of them one that is for a giver or taker of an ID.
func drawnFor(r *rand.Rand, id int, size int) api.Note {
	n := drawnNote(r, id, one(r, allKinds()...), size)
	if r.Intn(6) == 0 {
		n.ID = one(r, 0, 1, 2, 65535)
	}
	if r.Intn(6) == 0 {
		n = changedNote(r, n)
	}
	return n
}

func TestReply(t *testing.T) {
	r := rand.New(rand.NewSource(96))
	count := map[api.Errno]int{}
	for range 20000 {
		was := drawnGiver(r)
		n := drawnFor(r, was.ID, len(was.File)+3)
		g, l, e := deliver.Reply(was, n)
		want, notes, code := slowReply(was, n)
		count[e]++
		if told(g, l, e) != told(want, notes, code) {
			t.Fatalf("%+v %+v: %+v %+v %v, not %+v %+v %v", was, n, g, l, e, want, notes, code)
		}
	}
	for _, e := range []api.Errno{api.OK, api.ErrForm, api.ErrName, api.ErrKind} {
		if count[e] < 200 {
			t.Error(e, count[e])
		}
	}
}

// changedGiver: one of its fields is another one.
func changedGiver(r *rand.Rand, g api.Giver) api.Giver {
	edges := []int{-1, 0, 1, 2, len(g.File), len(g.File) + 1, math.MinInt, math.MaxInt}
	switch r.Intn(13) {
	case 0:
		g.ID = one(r, append(edges, 65535, 65536)...)
	case 1:
		g.Name = strings.Repeat("x", one(r, 0, 1, 32, 33))
	case 2:
		g.File = some(r, one(r, 0, 1, 65535, 65536, 65537))
	case 3:
		g.Most = one(r, append(edges, 1024, 1025)...)
	case 4:
		g.Burst = one(r, append(edges, 50, 51)...)
	case 5:
		g.Stage = api.Stage(one(r, 0, 1, 2, 3, 4, 5, -1, math.MaxInt, math.MinInt))
	case 6:
		g.First = !g.First
	case 7:
		g.At = one(r, append(edges, len(g.File)-1)...)
	case 8:
		g.Again = slices.Repeat([]span{{}}, one(r, 1, 999, 1000, 1001))
	case 9:
		g.Again = append(slices.Clone(g.Again), span{one(r, edges...), one(r, edges...)})
	case 10:
		g.Timer = one(r, append(edges, g.Patience-1, g.Patience)...)
	case 11:
		g.Tries = one(r, append(edges, g.Limit, g.Limit+1)...)
	case 12:
		g.Patience = one(r, append(edges, 1000, 1001)...)
		g.Limit = one(r, g.Limit, g.Limit, 0, -1, 100, 101, math.MaxInt, math.MinInt)
	}
	return g
}

func TestGiversThatMayNotBe(t *testing.T) {
	r := rand.New(rand.NewSource(97))
	count := map[bool]int{}
	for range 8000 {
		was := changedGiver(r, drawnGiver(r))
		n := drawnFor(r, was.ID, len(was.File)+3)
		may := slowGiverMayBe(was)
		count[may]++
		want, notes, code := api.Giver{}, []api.Note(nil), api.ErrState
		wantReply, reply, codeReply := want, notes, code
		if may {
			want, notes = slowGive(was)
			code = api.OK
			wantReply, reply, codeReply = slowReply(was, n)
		}
		if g, l, e := deliver.Give(was); told(g, l, e) != told(want, notes, code) {
			t.Fatalf("%+v: %+v %+v %v", was, g, l, e)
		}
		if g, l, e := deliver.Reply(was, n); told(g, l, e) != told(wantReply, reply, codeReply) {
			t.Fatalf("%+v %+v: %+v %+v %v", was, n, g, l, e)
		}
	}
	if count[true] < 1000 || count[false] < 1000 {
		t.Error(count)
	}
}

// brief: the kinds of notes, and where pieces begin.
func brief(l []api.Note) string {
	var out []any
	for _, n := range l {
		out = append(out, n.Kind, n.At+n.Size, len(n.Data))
	}
	return told(out...)
}

func TestGiveInOrder(t *testing.T) {
	g := offered(t, 1, "log", []byte{1, 2, 3, 4, 5}, 2, 2, 3, 1)
	wants := [][]api.Note{
		{{Kind: api.Meta, ID: 1, Name: "log", Size: 5}, {Kind: api.Piece, ID: 1, Data: []byte{1, 2}}},
		{{Kind: api.Piece, ID: 1, At: 2, Data: []byte{3, 4}}, {Kind: api.Piece, ID: 1, At: 4, Data: []byte{5}}},
		{{Kind: api.End, ID: 1, Size: 5, Sum: 0x06020304}},
		nil, nil,
		{{Kind: api.End, ID: 1, Size: 5, Sum: 0x06020304}},
		nil, nil, nil, nil,
	}
	for i, want := range wants {
		var l []api.Note
		g, l, _ = deliver.Give(g)
		if told(l) != told(want) {
			t.Errorf("tick %d: %+v", i, l)
		}
	}
	if g.Stage != api.Failed || g.Tries != 1 || g.Timer != 0 {
		t.Errorf("%+v", g)
	}
}

func TestGiveWhatIsAskedForFirst(t *testing.T) {
	g := offered(t, 1, "log", []byte{1, 2, 3, 4, 5}, 2, 3, 1, 9)
	g, _, _ = deliver.Reply(g, api.Note{Kind: api.Gaps, ID: 1, Gaps: []span{{}, {1, 5}, {0, 1}}})
	var all []string
	for range 4 {
		var l []api.Note
		g, l, _ = deliver.Give(g)
		all = append(all, brief(l))
	}
	want := []string{
		told(api.Meta, 5, 0, api.Meta, 5, 0, api.Piece, 1, 2),
		told(api.Piece, 3, 2, api.Piece, 0, 1, api.Piece, 0, 2),
		told(api.Piece, 2, 2, api.Piece, 4, 1, api.End, 5, 0),
		told(api.End, 5, 0), // one tick was all its patience
	}
	if !slices.Equal(all, want) {
		t.Errorf("%v, not %v", all, want)
	}
}

func TestEndIsNotOfTheBurst(t *testing.T) {
	g := offered(t, 1, "log", []byte{1, 2, 3}, 1, 2, 1, 2)
	g.Stage, g.First, g.At, g.Again = api.Open, false, 3, []span{{0, 3}}
	after, l, e := deliver.Give(g)
	if e != api.OK || brief(l) != told(api.Piece, 0, 1, api.Piece, 1, 1, api.End, 3, 0) || after.Tries != 1 {
		t.Errorf("%+v %+v %v", after, l, e)
	}
	g.Tries = 2
	after, l, e = deliver.Give(g)
	if e != api.OK || brief(l) != told(api.Piece, 0, 1, api.Piece, 1, 1) || after.Stage != api.Failed || after.Tries != 2 {
		t.Errorf("%+v %+v %v", after, l, e)
	}
	if told(after.Again) != told([]span{{2, 3}}) {
		t.Errorf("%+v", after)
	}
}

func TestAgainHasAnEnd(t *testing.T) {
	g := offered(t, 1, "log", some(rand.New(rand.NewSource(98)), 2000), 1, 2, 1, 2)
	for i := range 990 {
		g.Again = append(g.Again, span{i, i + 1})
	}
	n := api.Note{Kind: api.Gaps, ID: 1}
	for i := range 20 {
		n.Gaps = append(n.Gaps, span{1990 + i, 1992 + i})
	}
	n.Gaps[3] = span{}
	g, _, e := deliver.Reply(g, n)
	want := []span{{1990, 1992}, {1991, 1993}, {1992, 1994}, {}, {1994, 1996}, {1995, 1997}, {1996, 1998}, {1997, 1999}, {1998, 2000}, {1999, 2000}}
	if e != api.OK || told(g.Again[990:]) != told(want) {
		t.Errorf("%v %v", g.Again[990:], e)
	}
	again, _, e := deliver.Reply(g, n)
	if e != api.OK || told(again.Again) != told(g.Again) {
		t.Errorf("%d %v", len(again.Again), e)
	}
}

func TestReplyRefusesInOrder(t *testing.T) {
	g := offered(t, 1, "log", []byte{1, 2, 3}, 1, 2, 1, 2)
	gone := g
	gone.Timer = 1
	for want, l := range map[api.Errno][]api.Note{
		api.ErrForm: {{}, {Kind: api.Done, ID: 2, Code: 1}, {Kind: api.Meta, ID: 2}, {Kind: api.Gaps, ID: 1}},
		api.ErrName: {{Kind: api.Done, ID: 2}, {Kind: api.Meta, ID: 0, Name: "log"}, {Kind: api.Seen, ID: 65535, Of: api.End}},
		api.ErrKind: {{Kind: api.Meta, ID: 1, Name: "log"}, {Kind: api.Piece, ID: 1, Data: []byte{1}}, {Kind: api.End, ID: 1}},
	} {
		for _, n := range l {
			if after, out, e := deliver.Reply(g, n); e != want || told(after, out) != told(g, []api.Note{}) {
				t.Errorf("%+v: %+v %+v %v", n, after, out, e)
			}
			if after, out, e := deliver.Reply(gone, n); told(after, out, e) != told(api.Giver{}, []api.Note{}, api.ErrState) {
				t.Errorf("%+v: %+v %+v %v", n, after, out, e)
			}
		}
	}
}
