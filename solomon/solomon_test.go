package solomon_test

import (
	"bytes"
	"math"
	"slices"
	"testing"

	"farhail/api"
	"farhail/solomon"
)

// die gives numbers that look drawn, the same ones each time.
type die uint64

func (d *die) below(n int) int {
	*d = *d*6364136223846793005 + 1442695040888963407
	return int(uint64(*d>>33) % uint64(n))
}

func (d *die) bytes(n int) []byte {
	b := make([]byte, n)
	for i := range b {
		b[i] = byte(d.below(256))
	}
	return b
}

// places draws so many different places of n, in any order.
func (d *die) places(n, many int) []int {
	all := make([]int, n)
	for i := range all {
		all[i] = i
	}
	for i := range many {
		j := i + d.below(n-i)
		all[i], all[j] = all[j], all[i]
	}
	return all[:many]
}

// spoil changes a word at these places, each to another byte.
func (d *die) spoil(word []byte, places []int) []byte {
	word = bytes.Clone(word)
	for _, p := range places {
		word[p] ^= byte(1 + d.below(255))
	}
	return word
}

// slowMul: the product as the first chapter tells it, bits of a polynomial modulo x^8 + x^7 + x^2 + x + 1.
func slowMul(a, b byte) byte {
	product := 0
	for i := range 8 {
		if b&(1<<i) != 0 {
			product ^= int(a) << i
		}
	}
	for i := 14; i >= 8; i-- {
		if product&(1<<i) != 0 {
			product ^= 0x187 << (i - 8)
		}
	}
	return byte(product)
}

// isCode: is a word nought at 2, 2*2, .. (as often as there are checks)?
func isCode(word []byte, checks int) bool {
	x := byte(1)
	for range checks {
		x = slowMul(x, 2)
		value := byte(0)
		for _, c := range word {
			value = slowMul(value, x) ^ c
		}
		if value != 0 {
			return false
		}
	}
	return true
}

// differences: the places at which two words of one length differ.
func differences(a, b []byte) []int {
	var places []int
	for i := range a {
		if a[i] != b[i] {
			places = append(places, i)
		}
	}
	return places
}

// distance: twice the places at which a code word differs that are no holes, and the holes.
func distance(places, holes []int) int {
	far := len(holes)
	for _, p := range places {
		if !slices.Contains(holes, p) {
			far += 2
		}
	}
	return far
}

// nearest looks at all code words, one by one.
func nearest(words [][]byte, word []byte, checks int, holes []int) ([]byte, []int, api.Errno) {
	for _, w := range words {
		if places := differences(w, word); distance(places, holes) <= checks {
			return w[:len(w)-checks], places, api.OK
		}
	}
	return nil, nil, api.ErrLost
}

// allWords: each code word of two bytes of data or of one.
func allWords(t *testing.T, size, checks int) [][]byte {
	t.Helper()
	var words [][]byte
	for v := range 1 << (8 * size) {
		w, e := solomon.Encode([]byte{byte(v >> 8), byte(v)}[2-size:], checks)
		if e != api.OK || !isCode(w, checks) {
			t.Fatal(v, w, e)
		}
		words = append(words, w)
	}
	return words
}

// decodes: is what Decode answers this?
func decodes(t *testing.T, word []byte, checks int, holes []int, data []byte, places []int, want api.Errno) {
	t.Helper()
	a, p, e := solomon.Decode(word, checks, holes)
	if !bytes.Equal(a, data) || !slices.Equal(p, places) || e != want {
		t.Fatalf("Decode of % x, %d, %v: % x, %v, %v; wanted % x, %v, %v", word, checks, holes, a, p, e, data, places, want)
	}
}

// P2.1, P2.2: behind a byte of data just one pair of checks makes a word that is nought at 2 and 4.
func TestCodeWordsAreJustTheEncodedOnes(t *testing.T) {
	for first := range 8 {
		w, e := solomon.Encode([]byte{byte(first * 37)}, 2)
		if e != api.OK {
			t.Fatal(e)
		}
		for v := range 1 << 16 {
			word := []byte{byte(first * 37), byte(v >> 8), byte(v)}
			if bytes.Equal(w, word) != isCode(word, 2) {
				t.Fatal(word, w)
			}
		}
	}
}

// P2.2
func TestEncode(t *testing.T) {
	if w, e := solomon.Encode([]byte{1}, 2); !bytes.Equal(w, []byte{1, 6, 8}) || e != api.OK {
		t.Error(w, e)
	}
	d := die(1)
	for checks := 1; checks <= api.MaxChecks; checks++ {
		for _, n := range []int{1, 2, 1 + d.below(100), api.MaxWord - checks} {
			data := d.bytes(n)
			w, e := solomon.Encode(data, checks)
			if e != api.OK || len(w) != n+checks || !bytes.HasPrefix(w, data) || !isCode(w, checks) {
				t.Fatal(n, checks, w, e)
			}
		}
	}
	for _, data := range [][]byte{make([]byte, 20), append(make([]byte, 20), 1), append([]byte{1}, make([]byte, 20)...)} {
		if w, e := solomon.Encode(data, 5); e != api.OK || !bytes.HasPrefix(w, data) || !isCode(w, 5) {
			t.Error(data, w, e)
		}
	}
}

// P2.2
func TestEncodeRefuses(t *testing.T) {
	for _, c := range []struct {
		n, checks int
		want      api.Errno
	}{
		{1, 0, api.ErrSize}, {1, -1, api.ErrSize}, {1, 65, api.ErrSize}, {1, math.MinInt, api.ErrSize}, {1, math.MaxInt, api.ErrSize},
		{0, 1, api.ErrSize}, {0, 64, api.ErrSize}, {254, 2, api.ErrSize}, {255, 1, api.ErrSize}, {192, 64, api.ErrSize}, {100000, 4, api.ErrSize},
		{1, 1, api.OK}, {254, 1, api.OK}, {253, 2, api.OK}, {191, 64, api.OK}, {1, 64, api.OK},
	} {
		w, e := solomon.Encode(make([]byte, c.n), c.checks)
		if e != c.want || e != api.OK && len(w) > 0 || e == api.OK && len(w) != c.n+c.checks {
			t.Error(c, w, e)
		}
	}
}

// P2.3
func TestDecodeExamples(t *testing.T) {
	decodes(t, []byte{1, 6, 9}, 2, nil, []byte{1}, []int{2}, api.OK)
	decodes(t, []byte{0, 0, 8}, 2, []int{0, 1}, []byte{1}, []int{0, 1}, api.OK)
	decodes(t, []byte{0, 0, 8}, 2, []int{1, 0}, []byte{1}, []int{0, 1}, api.OK)
	decodes(t, []byte{0, 0, 8}, 2, nil, []byte{0}, []int{2}, api.OK)
	decodes(t, []byte{5, 6, 0}, 2, nil, nil, nil, api.ErrLost)
	decodes(t, []byte{1, 6, 8}, 2, nil, []byte{1}, nil, api.OK)
}

// P2.3: words that are so short that all code words can be looked at, with all sets of holes.
func TestDecodeAgainstAllCodeWords(t *testing.T) {
	d := die(2)
	for checks := 1; checks <= 5; checks++ {
		words := allWords(t, 1, checks)
		n := 1 + checks
		for set := range 1 << n {
			var holes []int
			for p := range n {
				if set>>p&1 == 1 {
					holes = append(holes, p)
				}
			}
			for range 40 {
				word := d.bytes(n)
				if d.below(2) == 0 {
					word = d.spoil(words[d.below(256)], d.places(n, d.below(n+1)))
				}
				data, places, e := nearest(words, word, checks, holes)
				decodes(t, word, checks, holes, data, places, e)
			}
		}
	}
}

// P2.3: the same with two bytes of data.
func TestDecodeOfTwoAgainstAllCodeWords(t *testing.T) {
	d := die(3)
	for checks := 2; checks <= 4; checks++ {
		words := allWords(t, 2, checks)
		for range 40 {
			n := 2 + checks
			word := d.spoil(words[d.below(1<<16)], d.places(n, d.below(4)))
			holes := d.places(n, d.below(checks+1))
			data, places, e := nearest(words, word, checks, holes)
			decodes(t, word, checks, holes, data, places, e)
		}
	}
}

// P2.3: words of any length, with as much wrong as can be mended, and holes some of which are right.
func TestDecodeMendsAllThatCanBe(t *testing.T) {
	d := die(4)
	for round := range 600 {
		checks := 1 + d.below(api.MaxChecks)
		n := checks + 1 + d.below(api.MaxWord-checks)
		if round%3 == 0 {
			n = api.MaxWord
		}
		data := d.bytes(n - checks)
		good, _ := solomon.Encode(data, checks)
		holes := d.below(min(checks, n) + 1)
		wrong := min((checks-holes)/2, n-holes)
		chosen := d.places(n, holes+wrong)
		spoilt := chosen[d.below(holes+1):]
		word := d.spoil(good, spoilt)
		decodes(t, word, checks, chosen[:holes], data, differences(word, good), api.OK)
	}
}

// P2.3: one place more than can be mended: whatever is answered is a code word, and near enough; and often it is lost.
func TestDecodeBeyondWhatCanBeMended(t *testing.T) {
	d := die(5)
	lost := 0
	for range 600 {
		checks := 1 + d.below(12)
		n := checks + 1 + d.below(60)
		good, _ := solomon.Encode(d.bytes(n-checks), checks)
		holes := d.below(checks + 1)
		chosen := d.places(n, min(n, holes+(checks-holes)/2+1+d.below(3)))
		word := d.spoil(good, chosen)
		data, places, e := solomon.Decode(word, checks, chosen[:holes])
		if e == api.ErrLost && len(data) == 0 && len(places) == 0 {
			lost++
			continue
		}
		again, _ := solomon.Encode(data, checks)
		if e != api.OK || len(again) != n || !slices.Equal(places, differences(word, again)) || distance(places, chosen[:holes]) > checks {
			t.Fatalf("% x, %d, %v: % x, %v, %v", word, checks, chosen[:holes], data, places, e)
		}
	}
	if lost < 300 {
		t.Error("too few are lost:", lost)
	}
}

// P2.3: more holes than checks are too many, even if nothing is wrong; as many are not.
func TestDecodeOfManyHoles(t *testing.T) {
	d := die(6)
	for _, checks := range []int{1, 2, 7, 64} {
		data := d.bytes(5)
		good, _ := solomon.Encode(data, checks)
		holes := d.places(len(good), checks+1)
		decodes(t, good, checks, holes, nil, nil, api.ErrLost)
		decodes(t, good, checks, holes[:checks], data, nil, api.OK)
		decodes(t, good, checks, nil, data, nil, api.OK)
		word := d.spoil(good, holes[:checks])
		decodes(t, word, checks, holes[:checks], data, differences(word, good), api.OK)
	}
}

// P2.3: which error is told, where several apply.
func TestDecodeRefuses(t *testing.T) {
	for _, c := range []struct {
		n, checks int
		holes     []int
		want      api.Errno
	}{
		{9, 0, nil, api.ErrSize}, {9, -1, nil, api.ErrSize}, {255, 65, nil, api.ErrSize}, {9, math.MinInt, nil, api.ErrSize}, {9, math.MaxInt, nil, api.ErrSize},
		{0, 1, nil, api.ErrSize}, {1, 1, nil, api.ErrSize}, {4, 5, nil, api.ErrSize}, {64, 64, nil, api.ErrSize}, {256, 4, nil, api.ErrSize},
		{256, 4, []int{-1, 3, 3}, api.ErrSize}, {9, 0, []int{9}, api.ErrSize}, {4, 4, []int{1, 1}, api.ErrSize},
		{9, 2, []int{9}, api.ErrRange}, {9, 2, []int{-1}, api.ErrRange}, {9, 2, []int{math.MinInt}, api.ErrRange}, {9, 2, []int{math.MaxInt}, api.ErrRange},
		{9, 2, []int{3, 3, 9}, api.ErrRange}, {9, 2, []int{0, 1, 2, 3, 4, 5, -1}, api.ErrRange},
		{9, 2, []int{3, 3}, api.ErrTwice}, {9, 2, []int{8, 0, 8}, api.ErrTwice}, {9, 2, []int{0, 1, 2, 3, 4, 0}, api.ErrTwice},
		{9, 2, []int{0, 1, 2}, api.ErrLost},
		{2, 1, []int{0}, api.OK}, {9, 2, []int{0, 8}, api.OK}, {255, 64, nil, api.OK}, {65, 64, []int{64}, api.OK}, {255, 1, []int{254}, api.OK},
	} {
		data, places, e := solomon.Decode(make([]byte, c.n), c.checks, c.holes)
		if e != c.want || len(places) > 0 || e != api.OK && len(data) > 0 || e == api.OK && len(data) != c.n-c.checks {
			t.Error(c, data, places, e)
		}
	}
}
