package memory_test

import (
	"errors"
	"iter"
	"math/rand"
	"slices"
	"testing"

	"farhail/api"
	"farhail/memory"
	"farhail/plain"
)

// must: a memory of so many words.
func must(t *testing.T, size int) *memory.Memory {
	t.Helper()
	m, err := memory.New(size)
	if err != nil || m == nil {
		t.Fatalf("%d words: %v", size, err)
	}
	return m
}

// full: a memory of these words.
func full(t *testing.T, words ...int) *memory.Memory {
	t.Helper()
	m := must(t, len(words))
	for at, n := range words {
		if err := m.Store(at, n); err != nil {
			t.Fatal(at, n, err)
		}
	}
	return m
}

// hit bits of a word.
func hit(t *testing.T, m *memory.Memory, at int, bits ...int) {
	t.Helper()
	for _, bit := range bits {
		if err := m.Turn(at, bit); err != nil {
			t.Fatal(at, bit, err)
		}
	}
}

// loads: is this word there?
func loads(t *testing.T, m *memory.Memory, at, want int) {
	t.Helper()
	if n, err := m.Load(at); n != want || err != nil {
		t.Fatalf("at %d: %d %v; wanted %d", at, n, err, want)
	}
}

// lost: is the word at a place told to be?
func lost(t *testing.T, m *memory.Memory, at int) {
	t.Helper()
	n, err := m.Load(at)
	var l *memory.Lost
	if n != 0 || !errors.As(err, &l) || l.At != at || plain.Tell(err) != api.ErrWord {
		t.Fatalf("at %d: %d %v", at, n, err)
	}
}

// scrubs: is this what comes of a Scrub?
func scrubs(t *testing.T, m *memory.Memory, n, mended int, lost ...int) {
	t.Helper()
	if k, l, err := m.Scrub(n); k != mended || !slices.Equal(l, lost) || err != nil {
		t.Fatalf("Scrub(%d): %d %v %v; wanted %d %v", n, k, l, err, mended, lost)
	}
}

// all: places and words, one behind the other.
func all(m *memory.Memory) (out []int) {
	for at, n := range m.All() {
		out = append(out, at, n)
	}
	return out
}

// tells: is this what All tells?
func tells(t *testing.T, m *memory.Memory, want ...int) {
	t.Helper()
	if got := all(m); !slices.Equal(got, want) {
		t.Fatalf("%v; wanted %v", got, want)
	}
}

// refuses: is an error this one?
func refuses(t *testing.T, what string, err error, e api.Errno) {
	t.Helper()
	if plain.Tell(err) != e {
		t.Errorf("%s: %v", what, err)
	}
}

func TestNew(t *testing.T) {
	for _, size := range []int{1, 2, 7, api.MaxMemory - 1, api.MaxMemory} {
		m := must(t, size)
		count := 0
		for at, n := range m.All() {
			if at != count || n != 0 {
				t.Fatal(at, n)
			}
			count++
		}
		if count != size {
			t.Errorf("%d words of %d", count, size)
		}
		scrubs(t, m, size, 0)
		loads(t, m, 0, 0)
		loads(t, m, size-1, 0)
	}
	for _, size := range append(far(1, api.MaxMemory), -5000) {
		m, err := memory.New(size)
		if m != nil {
			t.Errorf("%d words: there is a memory", size)
		}
		refuses(t, "New", err, api.ErrSize)
	}
}

func TestLoadAndStore(t *testing.T) {
	words := someWords(rand.New(rand.NewSource(107)))
	m := full(t, words...)
	for at, n := range words {
		loads(t, m, at, n)
	}
	for at, n := range words {
		if err := m.Store(at, mostWord-n); err != nil {
			t.Fatal(err)
		}
		loads(t, m, at, mostWord-n)
		if at > 0 {
			loads(t, m, at-1, mostWord-words[at-1])
		}
	}
}

func TestPlacesAndBitsThatAreNone(t *testing.T) {
	m := full(t, 5, 6, 7)
	hit(t, m, 1, 4)
	for _, at := range far(0, 2) {
		n, err := m.Load(at)
		if n != 0 {
			t.Errorf("at %d: %d", at, n)
		}
		refuses(t, "Load", err, api.ErrRange)
		refuses(t, "Store", m.Store(at, 1), api.ErrRange)
		refuses(t, "Store", m.Store(at, -1), api.ErrRange)
		refuses(t, "Turn", m.Turn(at, 1), api.ErrRange)
		refuses(t, "Turn", m.Turn(at, -1), api.ErrRange)
	}
	for at := range 3 {
		for _, n := range far(0, mostWord) {
			refuses(t, "Store", m.Store(at, n), api.ErrRange)
		}
		for _, bit := range far(0, api.WordBits-1) {
			refuses(t, "Turn", m.Turn(at, bit), api.ErrRange)
		}
	}
	for _, n := range far(0, 3) {
		k, l, err := m.Scrub(n)
		if k != 0 || len(l) > 0 {
			t.Errorf("Scrub(%d): %d %v", n, k, l)
		}
		refuses(t, "Scrub", err, api.ErrRange)
	}
	// What was refused has changed nothing: the wrong bit is there, and Scrub begins at the first word.
	scrubs(t, m, 1, 0)
	scrubs(t, m, 1, 1)
	tells(t, m, 0, 5, 1, 6, 2, 7)
}

func TestLoadMends(t *testing.T) {
	for bit := range api.WordBits {
		for other := range api.WordBits {
			m := full(t, 1, 0xCAFE1234, 3)
			hit(t, m, 1, bit)
			loads(t, m, 1, 0xCAFE1234)
			hit(t, m, 1, other) // a wrong bit that stayed would be the second one
			loads(t, m, 1, 0xCAFE1234)
			scrubs(t, m, 3, 0)
		}
	}
}

func TestLoadTellsWhatIsLost(t *testing.T) {
	m := full(t, 1, 0xCAFE1234, 3)
	for a := range api.WordBits {
		for b := range a {
			hit(t, m, 1, a, b)
			lost(t, m, 1)
			lost(t, m, 1)
			// The code stays as it is: with the two bits turned back nothing is wrong.
			hit(t, m, 1, a, b)
			scrubs(t, m, 3, 0)
			tells(t, m, 0, 1, 1, 0xCAFE1234, 2, 3)
		}
	}
	hit(t, m, 1, 8, 9)
	lost(t, m, 1)
	hit(t, m, 1, 8)
	loads(t, m, 1, 0xCAFE1234) // one bit of the two was wrong again
}

func TestStoreMakesNew(t *testing.T) {
	m := full(t, 1, 2)
	for bit := range api.WordBits - 1 {
		hit(t, m, 0, bit, bit+1)
		lost(t, m, 0)
		if err := m.Store(0, 9+bit); err != nil {
			t.Fatal(err)
		}
		scrubs(t, m, 2, 0)
		loads(t, m, 0, 9+bit)
	}
	loads(t, m, 1, 2)
}

func TestLostIsAnError(t *testing.T) {
	var err error = &memory.Lost{At: 7}
	if err.Error() == "" || errors.Unwrap(err) != error(api.ErrWord) || plain.Tell(err) != api.ErrWord {
		t.Error(err)
	}
	m := full(t, 0, 0, 0)
	hit(t, m, 2, 0, 1)
	_, err = m.Load(2)
	if !errors.Is(err, api.ErrWord) || errors.Is(err, api.ErrRange) {
		t.Error(err)
	}
	var none *memory.Lost
	if none.Error() == "" || none.Unwrap() != error(api.ErrWord) {
		t.Error("none has nothing to say")
	}
}

func TestScrub(t *testing.T) {
	m := full(t, 10, 11, 12, 13, 14)
	hit(t, m, 0, 0)
	hit(t, m, 1, 5, 6)
	hit(t, m, 3, 38)
	hit(t, m, 4, 2, 3)
	scrubs(t, m, 0, 0)
	scrubs(t, m, 2, 1, 1)
	scrubs(t, m, 3, 1, 4)
	scrubs(t, m, 5, 0, 1, 4)
	scrubs(t, m, 3, 0, 1)
	// From the fourth one on, over the end: what is lost is told in the order in which it was looked at.
	hit(t, m, 2, 7)
	scrubs(t, m, 5, 1, 4, 1)
	hit(t, m, 3, 7)
	scrubs(t, m, 4, 1, 4, 1)
	scrubs(t, m, 0, 0)
	scrubs(t, m, 1, 0)
	scrubs(t, m, 2, 0, 4)
	tells(t, m, 0, 10, 2, 12, 3, 13)
	hit(t, m, 1, 5, 6) // a code that is lost stays as it is
	loads(t, m, 1, 11)
}

// TestScrubAlone: of one word each visit is of the same one.
func TestScrubAlone(t *testing.T) {
	m := full(t, 77)
	for bit := range api.WordBits {
		hit(t, m, 0, bit)
		scrubs(t, m, 1, 1)
		scrubs(t, m, 1, 0)
		loads(t, m, 0, 77)
	}
	hit(t, m, 0, 1, 2)
	scrubs(t, m, 1, 0, 0)
}

// TestOnlyScrubGoesOn: nothing else moves where it looks next.
func TestOnlyScrubGoesOn(t *testing.T) {
	m := full(t, 1, 2, 3)
	scrubs(t, m, 1, 0)
	loads(t, m, 2, 3)
	all(m)
	_ = m.Store(0, 5)
	_, _, _ = m.Scrub(4)
	hit(t, m, 1, 3)
	scrubs(t, m, 1, 1)
}

func TestScrubApart(t *testing.T) {
	m := full(t, 1, 2, 3)
	hit(t, m, 0, 1, 2)
	hit(t, m, 2, 1, 2)
	_, a, _ := m.Scrub(3)
	_, b, _ := m.Scrub(3)
	a = a[:cap(a)]
	for i := range a {
		a[i] = 77
	}
	if !slices.Equal(b, []int{0, 2}) {
		t.Error(b)
	}
	scrubs(t, m, 3, 0, 0, 2)
}

func TestAllMendsNothing(t *testing.T) {
	m := full(t, 10, 11, 12, 13)
	for at := range 4 {
		hit(t, m, at, at)
	}
	hit(t, m, 2, 20)
	for range 3 {
		tells(t, m, 0, 10, 1, 11, 3, 13)
	}
	scrubs(t, m, 4, 3, 2)
	tells(t, m, 0, 10, 1, 11, 3, 13)
	alone := full(t, 5)
	hit(t, alone, 0, 1, 2)
	tells(t, alone)
}

func TestAllLeftEarly(t *testing.T) {
	m := full(t, 10, 11, 12, 13)
	row := m.All()
	for stop := range 4 {
		count := 0
		row(func(at, n int) bool {
			if at != count || n != 10+at {
				t.Errorf("%d: %d", at, n)
			}
			count++
			return at < stop
		})
		if count != stop+1 {
			t.Errorf("asked to stop at %d: %d were told", stop, count)
		}
	}
	next, stop := iter.Pull2(row)
	if at, n, ok := next(); at != 0 || n != 10 || !ok {
		t.Error(at, n, ok)
	}
	stop()
	tells(t, m, 0, 10, 1, 11, 2, 12, 3, 13)
	scrubs(t, m, 4, 0)
}

// TestAllWhileItChanges: each word is told as it is when it is reached.
func TestAllWhileItChanges(t *testing.T) {
	m := full(t, 10, 11, 12, 13, 14)
	row := m.All()
	hit(t, m, 0, 3) // behind the call of All, ahead of its being ranged over
	var got []int
	for at, n := range row {
		got = append(got, at, n)
		if at == 0 {
			_ = m.Store(0, 99)
			_ = m.Store(1, 21)
			hit(t, m, 2, 1, 2)
			hit(t, m, 4, 1, 2)
		}
		if at == 3 {
			hit(t, m, 4, 1)
			for at := range row { // within itself, too
				if at == 1 {
					break
				}
			}
		}
	}
	if !slices.Equal(got, []int{0, 10, 1, 21, 3, 13, 4, 14}) {
		t.Error(got)
	}
	tells(t, m, 0, 99, 1, 21, 3, 13, 4, 14)
}

func TestTwoMemories(t *testing.T) {
	a, b := full(t, 1, 2), full(t, 3, 4)
	hit(t, a, 0, 1, 2)
	scrubs(t, a, 1, 0, 0)
	hit(t, b, 0, 1)
	scrubs(t, b, 1, 1)
	tells(t, a, 1, 2)
	tells(t, b, 0, 3, 1, 4)
}

// slowMemory keeps codes as the chapter has them.
type slowMemory struct {
	codes []int
	next  int
}

// mend a place: whether a bit was wrong; false: it is lost.
func (s *slowMemory) mend(at int) (turned, ok bool) {
	n, turned, e := slowMend(s.codes[at])
	if e != api.OK {
		return false, false
	}
	s.codes[at] = slowCode(n)
	return turned, true
}

// poked: what should come of a poke.
func (s *slowMemory) poked(p api.Poke) (x api.Poked) {
	size := len(s.codes)
	there := p.At >= 0 && p.At < size
	switch {
	case p.Do == 1 && there:
		if _, ok := s.mend(p.At); !ok {
			return api.Poked{Code: api.ErrWord, At: p.At}
		}
		return api.Poked{N: slowWord(s.codes[p.At])}
	case p.Do == 2 && there && p.N >= 0 && p.N <= mostWord:
		s.codes[p.At] = slowCode(p.N)
	case p.Do == 3 && there && p.N >= 0 && p.N < 39:
		s.codes[p.At] ^= 1 << p.N
	case p.Do == 4 && p.N >= 0 && p.N <= size:
		for range p.N {
			turned, ok := s.mend(s.next)
			if turned {
				x.N++
			}
			if !ok {
				x.More = append(x.More, s.next)
			}
			s.next++
			if s.next == size {
				s.next = 0
			}
		}
	case p.Do == 5:
		for at, c := range s.codes {
			if n, _, e := slowMend(c); e == api.OK {
				x.More = append(x.More, at, n)
			}
		}
	default:
		x.Code = api.ErrRange
	}
	return x
}

// drawnPoke: turns are the most, so that words are lost now and then.
func drawnPoke(r *rand.Rand, size int) api.Poke {
	p := api.Poke{Do: []int{1, 2, 2, 3, 3, 3, 4, 5}[r.Intn(8)], At: r.Intn(size+2) - 1}
	switch p.Do {
	case 2:
		p.N = []int{r.Intn(1 << 32), r.Intn(9), mostWord, mostWord + 1, -1}[r.Intn(5)]
	case 3:
		p.N = r.Intn(41) - 1
	case 4:
		p.N = r.Intn(size+3) - 1
	}
	return p
}

func TestDrawnPokes(t *testing.T) {
	r := rand.New(rand.NewSource(108))
	count := map[api.Errno]int{}
	for range 300 {
		size := 1 + r.Intn(9)
		var l []api.Poke
		for range 120 {
			l = append(l, drawnPoke(r, size))
		}
		got, e := plain.Remember(size, l)
		if e != api.OK || len(got) != len(l) {
			t.Fatal(len(got), e)
		}
		slow := &slowMemory{codes: make([]int, size)}
		for i, p := range l {
			want := slow.poked(p)
			count[want.Code]++
			if x := got[i]; x.N != want.N || x.Code != want.Code || x.At != want.At || !slices.Equal(x.More, want.More) {
				t.Fatalf("%d words, poke %d of %v: %+v; wanted %+v", size, i, l, x, want)
			}
		}
	}
	if len(count) != 3 {
		t.Error(count)
	}
}

// TestNeverLost: at most one bit of a word is turned between two visits.
func TestNeverLost(t *testing.T) {
	r := rand.New(rand.NewSource(109))
	words := make([]int, 20)
	for at := range words {
		words[at] = r.Intn(mostWord + 1)
	}
	m := full(t, words...)
	for range 2000 {
		turned := 0
		for at := range words {
			if r.Intn(2) == 0 {
				hit(t, m, at, r.Intn(api.WordBits))
				turned++
			}
		}
		at := r.Intn(len(words))
		loads(t, m, at, words[at])
		if mended, lost, err := m.Scrub(len(words)); mended > turned || mended < turned-1 || len(lost) > 0 || err != nil {
			t.Fatal(turned, mended, lost, err)
		}
	}
	for at, n := range words {
		loads(t, m, at, n)
	}
}
