package stream_test

import (
	"bytes"
	"errors"
	"math/rand"
	"reflect"
	"slices"
	"testing"

	"farhail/api"
	"farhail/stream"
)

// slowMark: how many of the 32 bits from a place on are not as those of the mark, plain or turned.
func slowMark(l []byte, at int, turned bool) int {
	n := 0
	for i, want := range slowBits([]byte{0x1A, 0xCF, 0xFC, 0x1D}) {
		if (l[at+i]&1 == want) == turned {
			n++
		}
	}
	return n
}

// slowFrame: the frame whose bits begin at a place.
func slowFrame(l []byte, at, length int, turned bool) []byte {
	b := make([]byte, length)
	for i := range 8 * length {
		bit := l[at+i] & 1
		if turned {
			bit = 1 - bit
		}
		b[i/8] = 2*b[i/8] + bit
	}
	return slowScramble(b)
}

// slowListen: what is found in all these bits, with the whole list at hand, and whether one is locked behind it.
func slowListen(r api.Rule, l []byte) (found []api.Found, locked bool) {
	at, turned, missed := 0, false, 0
search:
	for ; ; at++ {
		if at+32 > len(l) {
			return found, false
		}
		turned, missed = slowMark(l, at, false) > r.Find, 0
		if !turned || slowMark(l, at, true) <= r.Find {
			break
		}
	}
	for {
		end := at + 32 + 8*r.Length
		if end > len(l) {
			return found, true
		}
		found = append(found, api.Found{At: at, Turned: turned, Missed: missed, Data: slowFrame(l, at+32, r.Length, turned)})
		at = end
		if at+32 > len(l) {
			return found, true
		}
		if slowMark(l, at, turned) <= r.Hold {
			missed = 0
			continue
		}
		if at+33 > len(l) {
			return found, true
		}
		if slowMark(l, at-1, turned) <= r.Find {
			at, missed = at-1, 0
		} else if slowMark(l, at+1, turned) <= r.Find {
			at, missed = at+1, 0
		} else if slowMark(l, at, !turned) <= r.Hold {
			turned, missed = !turned, 0
		} else if missed++; missed > r.Miss {
			goto search
		}
	}
}

// must: one who listens.
func must(t *testing.T, r api.Rule) *stream.Sync {
	t.Helper()
	s, err := stream.New(r)
	if err != nil || s == nil {
		t.Fatalf("%+v: %v, %v", r, s, err)
	}
	return s
}

// frame: a frame's bits, turned or not.
func frame(turned bool, data ...byte) []byte {
	l, _ := stream.Frame(data)
	if turned {
		return turn(l)
	}
	return l
}

// turn all bits.
func turn(l []byte) []byte {
	out := slices.Clone(l)
	for i := range out {
		out[i] ^= 1
	}
	return out
}

// wrongAt: the bits at these places are wrong.
func wrongAt(l []byte, places ...int) []byte {
	out := slices.Clone(l)
	for _, p := range places {
		out[p] ^= 1
	}
	return out
}

// firsts: the first few numbers.
func firsts(n int) []int {
	var out []int
	for i := range n {
		out = append(out, i)
	}
	return out
}

// join lists.
func join(l ...[]byte) []byte { return slices.Concat(l...) }

// heard: what is told of all these bits, taken at once.
func heard(t *testing.T, r api.Rule, l []byte) ([]api.Found, bool) {
	t.Helper()
	s := must(t, r)
	return slices.Collect(s.Take(l)), s.Locked()
}

// tells: are these frames found, and is one locked behind them?
func tells(t *testing.T, what string, r api.Rule, l []byte, locked bool, want ...api.Found) {
	t.Helper()
	got, now := heard(t, r, l)
	if len(got)+len(want) > 0 && !reflect.DeepEqual(got, want) || now != locked {
		t.Errorf("%s: %+v, locked %v; wanted %+v, %v", what, got, now, want, locked)
	}
	slow, then := slowListen(r, l)
	if len(slow)+len(want) > 0 && !reflect.DeepEqual(slow, want) || then != locked {
		t.Errorf("%s: the slow way finds %+v, locked %v; wanted %+v, %v", what, slow, then, want, locked)
	}
}

func TestNew(t *testing.T) {
	for _, r := range []api.Rule{
		{Length: 1}, {Length: api.MaxFrame}, {Length: 1, Find: 8}, {Length: 1, Hold: 12}, {Length: 1, Miss: 8},
		{Length: api.MaxFrame, Find: 8, Hold: 12, Miss: 8},
	} {
		if s := must(t, r); s.Locked() {
			t.Errorf("%+v: locked from the beginning", r)
		}
	}
}

func TestNewRefused(t *testing.T) {
	low, high := -1<<63, 1<<63-1
	for _, c := range []struct {
		rule api.Rule
		want api.Errno
	}{
		{api.Rule{Length: 0}, api.ErrSize}, {api.Rule{Length: -1}, api.ErrSize}, {api.Rule{Length: low}, api.ErrSize},
		{api.Rule{Length: api.MaxFrame + 1}, api.ErrSize}, {api.Rule{Length: high}, api.ErrSize},
		{api.Rule{Length: 1, Find: 9}, api.ErrRange}, {api.Rule{Length: 1, Find: -1}, api.ErrRange},
		{api.Rule{Length: 1, Find: low}, api.ErrRange}, {api.Rule{Length: 1, Find: high}, api.ErrRange},
		{api.Rule{Length: 1, Hold: 13}, api.ErrRange}, {api.Rule{Length: 1, Hold: -1}, api.ErrRange},
		{api.Rule{Length: 1, Hold: low}, api.ErrRange}, {api.Rule{Length: 1, Hold: high}, api.ErrRange},
		{api.Rule{Length: 1, Miss: 9}, api.ErrRange}, {api.Rule{Length: 1, Miss: -1}, api.ErrRange},
		{api.Rule{Length: 1, Miss: low}, api.ErrRange}, {api.Rule{Length: 1, Miss: high}, api.ErrRange},
		{api.Rule{Length: 0, Find: 9, Hold: 13, Miss: 9}, api.ErrSize},
		{api.Rule{Length: api.MaxFrame + 1, Miss: -1}, api.ErrSize},
	} {
		s, err := stream.New(c.rule)
		if s != nil || !errors.Is(err, c.want) {
			t.Errorf("%+v: %v, %v", c.rule, s, err)
		}
	}
}

func TestSearching(t *testing.T) {
	r := api.Rule{Length: 2, Find: 3}
	a := frame(false, 7, 9)
	is := func(at int, turned bool) api.Found { return api.Found{At: at, Turned: turned, Data: []byte{7, 9}} }
	tells(t, "nothing", r, nil, false)
	tells(t, "a mark but for a bit", r, a[:31], false)
	tells(t, "a mark", r, a[:32], true)
	tells(t, "a frame but for a bit", r, a[:47], true)
	tells(t, "a frame", r, a, true, is(0, false))
	tells(t, "a turned frame", r, turn(a), true, is(0, true))
	tells(t, "behind noughts", r, join(make([]byte, 50), a), true, is(50, false))
	tells(t, "behind a piece of itself", r, join(a[:20], a), true, is(20, false))
	for _, places := range [][]int{{0, 1, 2}, {29, 30, 31}, {4, 17, 30}} {
		tells(t, "three wrong", r, wrongAt(a, places...), true, is(0, false))
		tells(t, "three wrong, turned", r, wrongAt(turn(a), places...), true, is(0, true))
		tells(t, "four wrong", r, wrongAt(a, append(places, 12)...), false)
		tells(t, "four wrong, turned", r, wrongAt(turn(a), append(places, 12)...), false)
	}
}

func TestHolding(t *testing.T) {
	a, b := frame(false, 1, 2), frame(false, 3, 4)
	first, second := api.Found{Data: []byte{1, 2}}, api.Found{At: 48, Data: []byte{3, 4}}
	for hold := range 13 {
		r := api.Rule{Length: 2, Hold: hold}
		tells(t, "as many wrong as may be", r, join(a, wrongAt(b, firsts(hold)...)), true, first, second)
		tells(t, "one more", r, join(a, wrongAt(b, firsts(hold+1)...)), false, first)
		first, second := first, second
		first.Turned, second.Turned = true, true
		tells(t, "turned", r, turn(join(a, wrongAt(b, firsts(hold)...))), true, first, second)
		tells(t, "turned, one more", r, turn(join(a, wrongAt(b, firsts(hold+1)...))), false, first)
	}
}

func TestBeside(t *testing.T) {
	r := api.Rule{Length: 2, Find: 2, Hold: 3}
	a, b := frame(false, 1, 2), frame(false, 3, 4)
	for _, turned := range []bool{false, true} {
		way := func(l []byte) []byte {
			if turned {
				return turn(l)
			}
			return l
		}
		first := api.Found{Turned: turned, Data: []byte{1, 2}}
		// When its last bit is lost the frame takes the first one of the mark behind it.
		lost := join(a[:47], b)
		cut := first
		cut.Data = slowFrame(lost, 32, 2, false)
		at := func(n int) api.Found { return api.Found{At: n, Turned: turned, Data: []byte{3, 4}} }
		tells(t, "a bit lost", r, way(lost), true, cut, at(47))
		tells(t, "a bit too many", r, way(join(a, []byte{1}, b)), true, first, at(49))
		tells(t, "a bit too many, two wrong", r, way(join(a, []byte{0}, wrongAt(b, 5, 6))), true, first, at(49))
		tells(t, "a bit too many, three wrong", r, way(join(a, []byte{0}, wrongAt(b, 5, 6, 7))), false, first)
		tells(t, "a bit lost, two wrong", r, way(join(a[:47], wrongAt(b, 5, 6))), true, cut, at(47))
		tells(t, "a bit lost, three wrong", r, way(join(a[:47], wrongAt(b, 5, 6, 7))), false, cut)
		tells(t, "two bits too many: found by searching", r, way(join(a, []byte{0, 0}, b)), true, first, at(50))
		tells(t, "two bits lost: a mark is sought no farther back", r, way(join(a[:46], b)), false,
			api.Found{Turned: turned, Data: slowFrame(join(a[:46], b), 32, 2, false)})
	}
}

func TestTheOtherWay(t *testing.T) {
	r := api.Rule{Length: 2, Hold: 4}
	a, b := frame(false, 1, 2), frame(true, 3, 4)
	first, second := api.Found{Data: []byte{1, 2}}, api.Found{At: 48, Turned: true, Data: []byte{3, 4}}
	tells(t, "turned on the way", r, join(a, b), true, first, second)
	tells(t, "four wrong", r, join(a, wrongAt(b, 0, 9, 20, 31)), true, first, second)
	tells(t, "five wrong", r, join(a, wrongAt(b, 0, 9, 20, 31, 30)), false, first)
	tells(t, "told with 33 bits", r, join(a, b[:32]), true, first)
	c := frame(false, 5, 6)
	third := api.Found{At: 96, Data: []byte{5, 6}}
	tells(t, "there and back", r, join(a, b, c), true, first, second, third)
	// The other way round it is looked for at the place alone.
	tells(t, "a bit too many", api.Rule{Length: 2, Miss: 1, Hold: 4}, join(a, []byte{0}, b[:47]), true, first,
		api.Found{At: 48, Missed: 1, Data: slowFrame(join([]byte{0}, b), 32, 2, false)})
}

func TestMissing(t *testing.T) {
	no := make([]byte, 32)
	body := func(x, y byte) []byte { return frame(false, x, y)[32:] }
	for miss := range 9 {
		r := api.Rule{Length: 2, Miss: miss}
		l := frame(false, 0, 0)
		want := []api.Found{{Data: []byte{0, 0}}}
		for n := 1; n <= miss; n++ {
			l = join(l, no, body(byte(n), 5))
			want = append(want, api.Found{At: 48 * n, Missed: n, Data: []byte{byte(n), 5}})
		}
		tells(t, "as many missed as may be", r, l, true, want...)
		more := join(l, frame(false, 8, 8))
		again := append(slices.Clone(want), api.Found{At: len(l), Data: []byte{8, 8}})
		tells(t, "then one is there", r, more, true, again...)
		if miss > 0 {
			last := api.Found{At: len(more), Missed: 1, Data: []byte{7, 7}}
			tells(t, "they are counted anew", r, join(more, no, body(7, 7)), true, append(again, last)...)
		}
		tells(t, "one too many is missed", r, join(l, no, body(1, 1)), false, want...)
	}
}

func TestMissingTurned(t *testing.T) {
	r := api.Rule{Length: 1, Miss: 2}
	gap := make([]byte, 32)
	l := join(frame(true, 1), gap, frame(true, 2)[32:], gap, frame(true, 3)[32:])
	tells(t, "as the one before", r, l, true, api.Found{Turned: true, Data: []byte{1}},
		api.Found{At: 40, Turned: true, Missed: 1, Data: []byte{2}}, api.Found{At: 80, Turned: true, Missed: 2, Data: []byte{3}})
}

func TestSearchingFromTheExpectedPlace(t *testing.T) {
	a, b := frame(false, 1), frame(false, 2)
	first := api.Found{Data: []byte{1}}
	// By Hold it is not there, by Find it is: so it is found when one searches.
	r := api.Rule{Length: 1, Find: 3, Hold: 1}
	tells(t, "at the place itself", r, join(a, wrongAt(b, 1, 2, 3)), true, first, api.Found{At: 40, Data: []byte{2}})
	tells(t, "the other way round", r, join(a, wrongAt(turn(b), 1, 2, 3)), true, first, api.Found{At: 40, Turned: true, Data: []byte{2}})
	r.Miss = 1
	tells(t, "missed, and a frame all the same", r, join(a, wrongAt(b, 1, 2, 3)), true, first, api.Found{At: 40, Missed: 1, Data: []byte{2}})
	r.Miss = 0
	tells(t, "a bit behind, the other way round", r, join(a, []byte{0}, turn(b)), true, first, api.Found{At: 41, Turned: true, Data: []byte{2}})
	for gap := range 80 {
		tells(t, "behind a gap", r, join(a, make([]byte, gap), b), true, first, api.Found{At: 40 + gap, Data: []byte{2}})
	}
}

func TestAheadComesFirst(t *testing.T) {
	// With 8 wrong bits allowed one row of bits is a mark one bit ahead, and the same one bit behind.
	r := api.Rule{Length: 1, Find: 8}
	random := rand.New(rand.NewSource(44))
	mark := slowBits([]byte{0x1A, 0xCF, 0xFC, 0x1D})
	both := 0
	for range 20_000 {
		l := frame(false, 1)
		l = l[:39]
		for i := range 34 {
			l = append(l, byte(random.Intn(2)))
			if i < 32 && i >= 2 && mark[i] == mark[i-2] {
				l[39+i] = mark[i]
			}
		}
		ahead, there, behind := slowMark(l, 39, false), slowMark(l, 40, false), slowMark(l, 41, false)
		if ahead > 8 || behind > 8 || there == 0 {
			continue
		}
		both++
		l = append(l, make([]byte, 20)...)
		want, _ := slowListen(r, l)
		got, _ := heard(t, r, l)
		if len(got) < 2 || got[1].At != 39 || !reflect.DeepEqual(got, want) {
			t.Fatalf("%v: %+v, %+v", l, got, want)
		}
	}
	if both == 0 {
		t.Error("no such row of bits was met")
	}
}

// drawn: a stream of frames in which bits are wrong, lost, added and turned.
func drawn(r *rand.Rand, u api.Rule) []byte {
	var s []byte
	for range r.Intn(45) {
		s = append(s, byte(r.Intn(2)))
	}
	turned := r.Intn(2) == 0
	for range r.Intn(9) {
		f := frame(turned, some(r, u.Length)...)
		for range r.Intn(2 * (1 + u.Hold)) {
			f[r.Intn(len(f))] ^= 1
		}
		switch r.Intn(9) {
		case 0:
			f = f[:len(f)-1]
		case 1:
			f = append(f, byte(r.Intn(2)))
		case 2:
			f = append(slowBits(some(r, 4)), f[32:]...)
		case 3:
			turned = !turned
		case 4:
			f = slices.Delete(f, 10, 10+r.Intn(3))
		}
		s = append(s, f...)
	}
	return s
}

func TestEveryBeginning(t *testing.T) {
	r := rand.New(rand.NewSource(45))
	for range 300 {
		u := api.Rule{Length: 1 + r.Intn(4), Find: r.Intn(9), Hold: r.Intn(13), Miss: r.Intn(9)}
		if r.Intn(2) == 0 {
			u.Find, u.Miss = u.Find/3, u.Miss/3
		}
		l := drawn(r, u)
		s := must(t, u)
		var all []api.Found
		for n := range l {
			for f := range s.Take(l[n : n+1]) {
				all = append(all, f)
			}
			want, locked := slowListen(u, l[:n+1])
			if len(all)+len(want) > 0 && !reflect.DeepEqual(all, want) || s.Locked() != locked {
				t.Fatalf("%+v, %v: %+v, %v; wanted %+v, %v", u, l[:n+1], all, s.Locked(), want, locked)
			}
		}
	}
}

func TestPieces(t *testing.T) {
	r := rand.New(rand.NewSource(46))
	for range 1000 {
		u := api.Rule{Length: 1 + r.Intn(5), Find: r.Intn(5), Hold: r.Intn(13), Miss: r.Intn(4)}
		l := drawn(r, u)
		want, locked := slowListen(u, l)
		s := must(t, u)
		var all []api.Found
		for rest := l; len(rest) > 0; {
			n := r.Intn(min(len(rest), 90) + 1)
			all = slices.AppendSeq(all, s.Take(rest[:n]))
			rest = rest[n:]
		}
		if len(all)+len(want) > 0 && !reflect.DeepEqual(all, want) || s.Locked() != locked {
			t.Fatalf("%+v, %v: %+v, %v; wanted %+v, %v", u, l, all, s.Locked(), want, locked)
		}
	}
}

func TestGreatFrames(t *testing.T) {
	r := rand.New(rand.NewSource(47))
	u := api.Rule{Length: api.MaxFrame, Find: 3, Hold: 7, Miss: 2}
	var l []byte
	var want []api.Found
	for range 4 {
		b := some(r, u.Length)
		want = append(want, api.Found{At: len(l), Data: b})
		l = append(l, frame(false, b...)...)
	}
	tells(t, "frames of all that is allowed", u, l, true, want...)
}

func TestLowestBitCounts(t *testing.T) {
	r := rand.New(rand.NewSource(48))
	l := join(frame(false, 1, 2), frame(true, 3, 4))
	for i := range l {
		l[i] |= byte(r.Intn(128)) << 1
	}
	tells(t, "the other bits count for nothing", api.Rule{Length: 2}, l, true,
		api.Found{Data: []byte{1, 2}}, api.Found{At: 48, Turned: true, Data: []byte{3, 4}})
}

func TestRowIsTheSameAgain(t *testing.T) {
	s := must(t, api.Rule{Length: 1})
	row := s.Take(join(frame(false, 1), frame(false, 2), frame(false, 3)))
	for f := range row {
		spoil(f.Data)
	}
	for f := range row {
		if f.Data[0] != 1 {
			t.Errorf("what was written into an answer is told: %+v", f)
		}
		break
	}
	later := s.Take(frame(false, 4))
	count := 0
	for f := range row {
		count++
		for g := range row { // within itself, too
			if g.At > f.At {
				break
			}
		}
		if int(f.Data[0]) != count || f.At != 40*(count-1) {
			t.Errorf("%d: %+v", count, f)
		}
	}
	if got := slices.Collect(later); count != 3 || len(got) != 1 || got[0].At != 120 || got[0].Data[0] != 4 {
		t.Errorf("%d in the row, then %+v", count, got)
	}
}

func TestLeftEarly(t *testing.T) {
	s := must(t, api.Rule{Length: 1})
	for range s.Take(join(frame(false, 1), frame(false, 2))) {
		break
	}
	s.Take(frame(false, 3)) // nobody asks what it tells
	got := slices.Collect(s.Take(frame(false, 4)))
	if len(got) != 1 || got[0].At != 120 || got[0].Data[0] != 4 || !s.Locked() {
		t.Errorf("%+v", got)
	}
}

func TestTakenWhileRanging(t *testing.T) {
	s := must(t, api.Rule{Length: 1})
	var told []byte
	for f := range s.Take(join(frame(false, 1), frame(false, 2), frame(false, 3)[:20])) {
		told = append(told, f.Data...)
		if f.At == 0 {
			for g := range s.Take(frame(false, 3)[20:]) {
				told = append(told, g.Data...)
			}
		}
	}
	if !bytes.Equal(told, []byte{1, 3, 2}) {
		t.Errorf("%v", told)
	}
}

func TestTakenBitsAreNotKept(t *testing.T) {
	s := must(t, api.Rule{Length: 2})
	l := frame(false, 1, 2)
	piece, room := roomy(l[:40])
	row := s.Take(piece)
	if !bytes.Equal(piece, l[:40]) || !bytes.Equal(room, bytes.Repeat([]byte{9}, 16)) {
		t.Error("what was handed in is changed")
	}
	spoil(piece)
	end := slices.Clone(l[40:])
	last := s.Take(end)
	spoil(end)
	if len(slices.Collect(row)) != 0 {
		t.Error("a frame is told too early")
	}
	if got := slices.Collect(last); len(got) != 1 || !bytes.Equal(got[0].Data, []byte{1, 2}) {
		t.Errorf("%+v", got)
	}
}

func TestTwoWhoListen(t *testing.T) {
	a, b := must(t, api.Rule{Length: 1}), must(t, api.Rule{Length: 2, Hold: 3})
	l, m := frame(false, 1), frame(true, 2, 3)
	var got []api.Found
	for i := range m {
		if i < len(l) {
			got = slices.AppendSeq(got, a.Take(l[i:i+1]))
		}
		got = slices.AppendSeq(got, b.Take(m[i:i+1]))
	}
	want := []api.Found{{Data: []byte{1}}, {Turned: true, Data: []byte{2, 3}}}
	if !reflect.DeepEqual(got, want) {
		t.Errorf("%+v", got)
	}
}

func TestLockedExample(t *testing.T) {
	s := must(t, api.Rule{Length: 1})
	got := slices.Collect(s.Take(join([]byte{0, 0, 0}, frame(false, 0))))
	if len(got) != 1 || got[0].At != 3 || !bytes.Equal(got[0].Data, []byte{0}) || !s.Locked() {
		t.Errorf("%+v, %v", got, s.Locked())
	}
	for n := range 33 {
		if !s.Locked() {
			t.Errorf("not locked behind %d noughts", n)
		}
		s.Take([]byte{0})
	}
	if s.Locked() {
		t.Error("locked behind 33 noughts")
	}
}

func TestNothingWrongAllFound(t *testing.T) {
	r := rand.New(rand.NewSource(49))
	for range 300 {
		u := api.Rule{Length: 1 + r.Intn(30), Find: r.Intn(9), Hold: r.Intn(13), Miss: r.Intn(9)}
		turned := r.Intn(2) == 0
		var l []byte
		var want []api.Found
		for range r.Intn(20) {
			b := some(r, u.Length)
			want = append(want, api.Found{At: len(l), Turned: turned, Data: b})
			l = append(l, frame(turned, b...)...)
		}
		tells(t, "one behind the other", u, l, len(l) > 0, want...)
	}
}

// behindFault: is the mark found behind a frame in which a bit is lost, or one too many?
func behindFault(t *testing.T, u api.Rule, a, b []byte) {
	t.Helper()
	got, _ := heard(t, u, join(a, b))
	if len(got) != 2 || got[1].At != len(a) || !bytes.Equal(got[1].Data, slowFrame(b, 32, u.Length, false)) {
		t.Errorf("%+v, %v: %+v", u, a, got)
	}
}

func TestBehindALostBit(t *testing.T) {
	r := rand.New(rand.NewSource(50))
	for find := range 4 {
		for hold := range 8 {
			for place := 32; place < 48; place++ {
				u := api.Rule{Length: 2, Find: find, Hold: hold, Miss: r.Intn(9)}
				a, b := frame(false, some(r, 2)...), frame(false, some(r, 2)...)
				behindFault(t, u, slices.Delete(slices.Clone(a), place, place+1), b)
				behindFault(t, u, slices.Insert(slices.Clone(a), place, 0), b)
				behindFault(t, u, slices.Insert(slices.Clone(a), place+1, 1), b)
			}
		}
	}
}
