package deliver_test

import (
	"bytes"
	"math"
	"math/rand"
	"slices"
	"strings"
	"testing"

	"farhail/api"
	"farhail/deliver"
)

// expected: what has to go well.
func expected(t *testing.T, id, patience, limit int) api.Taker {
	t.Helper()
	k, e := deliver.Expect(id, patience, limit)
	if e != api.OK {
		t.Fatalf("Expect %d %d %d: %v", id, patience, limit, e)
	}
	return k
}

func TestExpect(t *testing.T) {
	for _, l := range [][3]int{{7, 5, 6}, {0, 1, 1}, {65535, 1000, 100}} {
		k := expected(t, l[0], l[1], l[2])
		if told(k) != told(api.Taker{ID: l[0], Patience: l[1], Limit: l[2]}) {
			t.Errorf("%+v", k)
		}
	}
	refused := func(id, patience, limit int) {
		t.Helper()
		if k, e := deliver.Expect(id, patience, limit); e != api.ErrRange || told(k) != told(api.Taker{}) {
			t.Errorf("%d %d %d: %+v %v", id, patience, limit, k, e)
		}
	}
	for _, n := range far(0, 65535) {
		refused(n, 1, 1)
	}
	for _, n := range far(1, 1000) {
		refused(1, n, 1)
	}
	for _, n := range far(1, 100) {
		refused(1, 1, n)
	}
}

// spansOf what is true.
func spansOf(l []bool) (out []span) {
	for i, is := range l {
		switch {
		case is && (i == 0 || !l[i-1]):
			out = append(out, span{i, i + 1})
		case is:
			out[len(out)-1][1] = i + 1
		}
	}
	return out
}

// truthOf spans: of so many bytes, which ones they tell.
func truthOf(spans []span, size int) []bool {
	l := make([]bool, size)
	for _, s := range spans {
		for i := s[0]; i < s[1] && i < size; i++ {
			l[i] = true
		}
	}
	return l
}

// all of the first so many, which are true?
func all(l []bool, size int) bool {
	return size <= len(l) && !slices.Contains(l[:size], false)
}

// drawnTaker that may be; near to what a small file's is.
func drawnTaker(r *rand.Rand) api.Taker {
	k := api.Taker{ID: r.Intn(3), Patience: 1 + r.Intn(4), Limit: 1 + r.Intn(3), Stage: one(r, api.Going, api.Going, api.Failed, api.Over)}
	came, holes := make([]bool, r.Intn(12)), one(r, 1, 3, 30)
	for i := range came {
		came[i] = r.Intn(holes) > 0
	}
	k.Have = spansOf(came)
	if len(k.Have) > 0 {
		k.File = some(r, k.Have[len(k.Have)-1][1])
	}
	for i := range k.File {
		if !came[i] {
			k.File[i] = 0
		}
	}
	if r.Intn(3) > 0 {
		k.Known, k.Name, k.Size = true, "log", one(r, len(k.File), r.Intn(12))
	}
	if r.Intn(3) > 0 {
		k.Ended, k.Last, k.Sum = true, one(r, k.Size, k.Size, len(k.File), r.Intn(12)), one(r, slowSum(k.File), 5)
	}
	if k.Stage == api.Over && (!k.Known || !all(came, k.Size)) {
		k.Stage = api.Going
	}
	k.Timer, k.Tries = r.Intn(k.Patience), r.Intn(k.Limit+1)
	return k
}

// slowTakerMayBe, by the words of the chapter.
func slowTakerMayBe(k api.Taker) bool {
	ok := in(k.ID, 0, 65535) && in(k.Patience, 1, 1000) && in(k.Limit, 1, 100)
	ok = ok && (k.Stage == api.Going || k.Stage == api.Over || k.Stage == api.Failed)
	ok = ok && len(k.Name) <= 32 && in(k.Size, 0, 65536) && in(k.Last, 0, 65536) && in(k.Sum, 0, maxSum)
	ok = ok && k.Known == (k.Name != "") && (k.Known || k.Size == 0)
	ok = ok && (k.Ended || k.Last == 0 && k.Sum == 0)
	end := -1
	for _, s := range k.Have {
		ok = ok && s[0] > end && s[0] < s[1]
		end = s[1]
	}
	ok = ok && len(k.File) == max(end, 0) && len(k.File) <= 65536
	if !ok {
		return false
	}
	came := truthOf(k.Have, len(k.File))
	for i, b := range k.File {
		ok = ok && (came[i] || b == 0)
	}
	ok = ok && (k.Stage != api.Over || k.Known && all(came, k.Size))
	return ok && in(k.Timer, 0, k.Patience-1) && in(k.Tries, 0, k.Limit)
}

// slowMissing, of a taker that may be.
func slowMissing(k api.Taker) (out []span) {
	if !k.Known {
		out = append(out, span{0, 0})
	}
	not := truthOf(k.Have, k.Last)
	for i := range not {
		not[i] = !not[i]
	}
	out = append(out, spansOf(not)...)
	return out[:min(len(out), 20)]
}

// slowTake of a taker that may be.
func slowTake(k api.Taker, n api.Note) (api.Taker, []api.Note, api.Errno) {
	k.File, k.Have = slices.Clone(k.File), slices.Clone(k.Have)
	seen := api.Note{Kind: api.Seen, ID: k.ID, Of: api.End}
	well, ill := api.Note{Kind: api.Done, ID: k.ID}, api.Note{Kind: api.Done, ID: k.ID, Code: api.ErrSum}
	var out []api.Note
	switch {
	case !slowMayBe(n):
		return k, nil, api.ErrForm
	case n.ID != k.ID:
		return k, nil, api.ErrName
	case n.Kind == api.Gaps || n.Kind == api.Done:
		return k, nil, api.ErrKind
	}
	if n.Kind == api.End {
		out = append(out, seen)
	}
	switch {
	case k.Stage == api.Failed && n.Kind == api.End:
		return k, append(out, ill), api.OK
	case k.Stage == api.Over && n.Kind == api.End:
		return k, append(out, well), api.OK
	case k.Stage == api.Over && n.Kind == api.Seen && n.Of == api.Done:
		k.Timer, k.Tries = 0, k.Limit
		return k, nil, api.OK
	case k.Stage != api.Going:
		return k, nil, api.OK
	}
	k.Timer, k.Tries = 0, 0
	came := truthOf(k.Have, 65536)
	switch {
	case n.Kind == api.Meta && !k.Known:
		k.Known, k.Name, k.Size = true, n.Name, n.Size
	case n.Kind == api.End && !k.Ended:
		k.Ended, k.Last, k.Sum = true, n.Size, n.Sum
	}
	for i, b := range n.Data {
		for len(k.File) <= n.At+i {
			k.File = append(k.File, 0)
		}
		if !came[n.At+i] {
			k.File[n.At+i], came[n.At+i] = b, true
		}
	}
	k.Have = spansOf(came)
	switch {
	case !k.Known || !k.Ended:
	case k.Size != k.Last:
		k.Stage, out = api.Failed, append(out, ill)
	case all(came, k.Size) && slowSum(k.File[:k.Size]) == k.Sum:
		k.Stage, out = api.Over, append(out, well)
	case all(came, k.Size):
		k.Stage, out = api.Failed, append(out, ill)
	}
	if k.Stage == api.Going && n.Kind == api.End {
		out = append(out, api.Note{Kind: api.Gaps, ID: k.ID, Gaps: slowMissing(k)})
	}
	return k, out, api.OK
}

// slowWait of a taker that may be.
func slowWait(k api.Taker) (api.Taker, []api.Note) {
	going := k.Stage == api.Going && k.Ended
	over := k.Stage == api.Over && k.Tries < k.Limit
	if !going && !over {
		return k, nil
	}
	if k.Timer++; k.Timer < k.Patience {
		return k, nil
	}
	k.Timer = 0
	k.Tries++
	switch {
	case over:
		return k, []api.Note{{Kind: api.Done, ID: k.ID}}
	case k.Tries > k.Limit:
		k.Tries, k.Stage = k.Limit, api.Failed
	case len(slowMissing(k)) > 0:
		return k, []api.Note{{Kind: api.Gaps, ID: k.ID, Gaps: slowMissing(k)}}
	}
	return k, nil
}

// asItShould: do Take, Wait and Whole with a taker what the chapter says?
func asItShould(t *testing.T, was api.Taker, n api.Note) {
	t.Helper()
	want, notes, code := api.Taker{}, []api.Note(nil), api.ErrState
	waited, later, codeLater := want, notes, code
	name, file, codeWhole := "", []byte(nil), code
	if slowTakerMayBe(was) {
		want, notes, code = slowTake(was, n)
		waited, later = slowWait(was)
		codeLater, codeWhole = api.OK, api.ErrMore
		if was.Stage == api.Over {
			name, file, codeWhole = was.Name, was.File[:was.Size], api.OK
		}
	}
	if k, l, e := deliver.Take(was, n); told(k, l, e) != told(want, notes, code) {
		t.Fatalf("%+v %+v: %+v %+v %v, not %+v %+v %v", was, n, k, l, e, want, notes, code)
	}
	if k, l, e := deliver.Wait(was); told(k, l, e) != told(waited, later, codeLater) {
		t.Fatalf("%+v: %+v %+v %v, not %+v %+v %v", was, k, l, e, waited, later, codeLater)
	}
	if s, b, e := deliver.Whole(was); s != name || !bytes.Equal(b, file) || e != codeWhole {
		t.Fatalf("%+v: %q %X %v", was, s, b, e)
	}
}

func TestTakers(t *testing.T) {
	r := rand.New(rand.NewSource(101))
	count := map[api.Stage]int{}
	for range 6000 {
		was := drawnTaker(r)
		n := drawnFor(r, was.ID, 12)
		if n.Kind == api.End && r.Intn(2) == 0 {
			n.Size, n.Sum = was.Size, slowSum(was.File)
		}
		count[was.Stage]++
		asItShould(t, was, n)
	}
	for _, s := range []api.Stage{api.Going, api.Over, api.Failed} {
		if count[s] < 300 {
			t.Error(s, count[s])
		}
	}
}

// changedTaker: one of its fields is another one.
func changedTaker(r *rand.Rand, k api.Taker) api.Taker {
	edges := []int{-1, 0, 1, 2, len(k.File), len(k.File) + 1, 65536, 65537, math.MinInt, math.MaxInt}
	switch r.Intn(15) {
	case 0:
		k.ID = one(r, append(edges, 65535)...)
	case 1:
		k.Known = !k.Known
	case 2:
		k.Name = strings.Repeat("x", one(r, 0, 1, 32, 33))
	case 3:
		k.Size = one(r, edges...)
	case 4:
		k.Ended = !k.Ended
	case 5:
		k.Last = one(r, edges...)
	case 6:
		k.Sum = one(r, append(edges, maxSum, maxSum+1)...)
	case 7:
		k.Have = append(slices.Clone(k.Have), span{one(r, edges...), one(r, edges...)})
	case 8:
		k.Have = slices.Concat([]span{{one(r, edges...), one(r, edges...)}}, k.Have)
	case 9:
		k.File = append(slices.Clone(k.File), 0)
	case 10:
		k.File = slices.Clone(k.File)
		for i := range k.File {
			k.File[i] |= byte(r.Intn(2))
		}
	case 11:
		k.Stage = api.Stage(one(r, 0, 1, 2, 3, 4, 5, -1, math.MaxInt, math.MinInt))
	case 12:
		k.Timer = one(r, append(edges, k.Patience-1, k.Patience)...)
	case 13:
		k.Tries = one(r, append(edges, k.Limit, k.Limit+1)...)
	case 14:
		k.Patience = one(r, append(edges, 1000, 1001)...)
		k.Limit = one(r, k.Limit, k.Limit, 0, -1, 100, 101, math.MaxInt, math.MinInt)
	}
	return k
}

func TestTakersThatMayNotBe(t *testing.T) {
	r := rand.New(rand.NewSource(102))
	count := map[bool]int{}
	for range 8000 {
		was := changedTaker(r, drawnTaker(r))
		count[slowTakerMayBe(was)]++
		asItShould(t, was, drawnFor(r, was.ID, 12))
	}
	if count[true] < 1000 || count[false] < 1000 {
		t.Error(count)
	}
}

// going: a taker that has bytes, and nothing else.
func going(have ...span) api.Taker {
	k := api.Taker{ID: 1, Patience: 2, Limit: 2, Have: have}
	if len(have) > 0 {
		k.File = make([]byte, have[len(have)-1][1])
	}
	return k
}

func TestHaveRises(t *testing.T) {
	for _, l := range [][]span{
		{{0, 0}}, {{1, 1}}, {{2, 1}}, {{-1, 1}}, {{0, 1}, {1, 2}}, {{0, 2}, {1, 3}}, {{3, 4}, {0, 1}},
		{{0, 1}, {2, 2}}, {{0, 1}, {3, 2}}, {{5, 6}, {5, 6}}, {{65536, 65537}},
	} {
		asItShould(t, going(l...), api.Note{Kind: api.Piece, ID: 1, At: 9, Data: []byte{1}})
		if _, _, e := deliver.Wait(going(l...)); e != api.ErrState {
			t.Errorf("%v: %v", l, e)
		}
	}
	for _, l := range [][]span{nil, {{0, 1}}, {{0, 1}, {2, 3}}, {{65535, 65536}}, {{0, 65536}}} {
		asItShould(t, going(l...), api.Note{Kind: api.Piece, ID: 1, At: 65530, Data: []byte{1, 2, 3, 4, 5, 6}})
		if _, _, e := deliver.Wait(going(l...)); e != api.OK {
			t.Errorf("%v: %v", l, e)
		}
	}
	long := going(span{0, 65536})
	long.File = append(long.File, 0)
	if _, _, e := deliver.Wait(long); e != api.ErrState {
		t.Error(e)
	}
}

// TestPiecesInEveryOrder: bytes that came first stay; what touches is joined.
func TestPiecesInEveryOrder(t *testing.T) {
	r := rand.New(rand.NewSource(103))
	for range 60 {
		k := expected(t, 1, 2, 2)
		for range 12 {
			n := api.Note{Kind: api.Piece, ID: 1, At: r.Intn(20), Data: some(r, 1+r.Intn(5))}
			asItShould(t, k, n)
			k, _, _ = deliver.Take(k, n)
		}
	}
	k := expected(t, 1, 2, 2)
	for _, n := range []api.Note{
		{Kind: api.Piece, ID: 1, At: 6, Data: []byte{1}},
		{Kind: api.Piece, ID: 1, At: 2, Data: []byte{2, 0, 2}},
		{Kind: api.Piece, ID: 1, At: 4, Data: []byte{3, 3}},
	} {
		k, _, _ = deliver.Take(k, n)
	}
	if told(k.Have, k.File) != told([]span{{2, 7}}, []byte{0, 0, 2, 0, 2, 3, 1}) {
		t.Errorf("%+v", k)
	}
}

func TestMissing(t *testing.T) {
	end := api.Note{Kind: api.End, ID: 1, Size: 60, Sum: 7}
	k := expected(t, 1, 1, 3)
	for i := range 30 {
		k, _, _ = deliver.Take(k, api.Note{Kind: api.Piece, ID: 1, At: 2 * i, Data: []byte{1}})
	}
	after, l, e := deliver.Take(k, end)
	if e != api.OK || len(l) != 2 || l[0].Kind != api.Seen || len(l[1].Gaps) != 20 || l[1].Gaps[0] != (span{}) || l[1].Gaps[19] != (span{37, 38}) {
		t.Errorf("%+v %v", l, e)
	}
	_, l, _ = deliver.Wait(after)
	if len(l) != 1 || len(l[0].Gaps) != 20 || l[0].Gaps[0] != (span{}) {
		t.Errorf("%+v", l)
	}
	k, _, _ = deliver.Take(k, api.Note{Kind: api.Meta, ID: 1, Name: "log", Size: 60})
	after, l, e = deliver.Take(k, end)
	if e != api.OK || len(l) != 2 || len(l[1].Gaps) != 20 || l[1].Gaps[0] != (span{1, 2}) || l[1].Gaps[19] != (span{39, 40}) {
		t.Errorf("%+v %v", l, e)
	}
	if b, e := deliver.Encode(l[1]); e != api.OK || len(b) != 163 {
		t.Errorf("%X %v", b, e)
	}
	asItShould(t, k, end)
	asItShould(t, after, end)
}

func TestTakeRefusesInOrder(t *testing.T) {
	k := expected(t, 1, 2, 2)
	k, _, _ = deliver.Take(k, api.Note{Kind: api.Piece, ID: 1, At: 2, Data: []byte{5}})
	gone := k
	gone.Timer = 2
	for want, l := range map[api.Errno][]api.Note{
		api.ErrForm: {{}, {Kind: api.Seen, ID: 2, Of: 1}, {Kind: api.Done, ID: 2, Code: 1}, {Kind: api.Gaps, ID: 1}},
		api.ErrName: {{Kind: api.Done, ID: 2}, {Kind: api.Meta, ID: 0, Name: "log"}, {Kind: api.Gaps, ID: 65535, Gaps: []span{{}}}},
		api.ErrKind: {{Kind: api.Done, ID: 1}, {Kind: api.Gaps, ID: 1, Gaps: []span{{}}}},
	} {
		for _, n := range l {
			if after, out, e := deliver.Take(k, n); e != want || told(after, out) != told(k, []api.Note{}) {
				t.Errorf("%+v: %+v %+v %v", n, after, out, e)
			}
			if after, out, e := deliver.Take(gone, n); told(after, out, e) != told(api.Taker{}, []api.Note{}, api.ErrState) {
				t.Errorf("%+v: %+v %+v %v", n, after, out, e)
			}
		}
	}
}

func TestEndsOfATaker(t *testing.T) {
	meta := api.Note{Kind: api.Meta, ID: 1, Name: "log", Size: 0}
	end := api.Note{Kind: api.End, ID: 1}
	seen := api.Note{Kind: api.Seen, ID: 1, Of: api.End}
	done, failed := api.Note{Kind: api.Done, ID: 1}, api.Note{Kind: api.Done, ID: 1, Code: api.ErrSum}
	gaps := api.Note{Kind: api.Gaps, ID: 1, Gaps: []span{{}}}
	k := expected(t, 1, 2, 2)
	k, l, _ := deliver.Take(k, end)
	if told(l) != told([]api.Note{seen, gaps}) {
		t.Errorf("%+v", l)
	}
	empty, l, _ := deliver.Take(k, meta) // a file without bytes
	if told(l) != told([]api.Note{done}) || empty.Stage != api.Over {
		t.Errorf("%+v %+v", empty, l)
	}
	name, b, e := deliver.Whole(empty)
	if name != "log" || len(b) > 0 || e != api.OK {
		t.Errorf("%q %X %v", name, b, e)
	}
	meta.Size = 1
	other, l, _ := deliver.Take(k, meta) // another size than the End's
	if told(l) != told([]api.Note{failed}) || other.Stage != api.Failed {
		t.Errorf("%+v %+v", other, l)
	}
	if _, l, _ := deliver.Take(other, end); told(l) != told([]api.Note{seen, failed}) {
		t.Errorf("%+v", l)
	}
	if name, b, e := deliver.Whole(other); name != "" || len(b) > 0 || e != api.ErrMore {
		t.Errorf("%q %X %v", name, b, e)
	}
}

func TestWholeIsAsLongAsItsMetaTold(t *testing.T) {
	k := expected(t, 1, 2, 2)
	for _, n := range []api.Note{
		{Kind: api.Piece, ID: 1, Data: []byte{1, 2, 3, 4, 5, 6, 7}},
		{Kind: api.Piece, ID: 1, At: 9, Data: []byte{9}},
		{Kind: api.Meta, ID: 1, Name: "log", Size: 5},
		{Kind: api.Meta, ID: 1, Name: "other", Size: 9},
		{Kind: api.End, ID: 1, Size: 5, Sum: 0x06020304},
	} {
		k, _, _ = deliver.Take(k, n)
	}
	name, b, e := deliver.Whole(k)
	if name != "log" || !bytes.Equal(b, []byte{1, 2, 3, 4, 5}) || e != api.OK {
		t.Errorf("%q %X %v", name, b, e)
	}
}
