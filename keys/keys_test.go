package keys_test

import (
	"bytes"
	"encoding/hex"
	"math"
	"math/big"
	"math/rand"
	"slices"
	"strings"
	"testing"

	"farhail/api"
	"farhail/keys"
)

const word = 1 << 32

// oneToEight: the words of the examples.
func oneToEight() []int { return []int{1, 2, 3, 4, 5, 6, 7, 8} }

// some bytes that look drawn.
func some(r *rand.Rand, n int) []byte {
	b := make([]byte, n)
	for i := range b {
		b[i] = byte(r.Intn(256))
	}
	return b
}

// drawnWords of a key; some of them are the least or the greatest.
func drawnWords(r *rand.Rand) []int {
	var l []int
	for range 8 {
		l = append(l, []int{r.Intn(word), r.Intn(word), r.Intn(word), 0, word - 1}[r.Intn(5)])
	}
	return l
}

func drawnCounter(r *rand.Rand) int {
	edges := []int{0, 1, word - 1, word, word + 1, api.MaxCounter - 1, api.MaxCounter}
	if r.Intn(3) == 0 {
		return edges[r.Intn(len(edges))]
	}
	return r.Intn(api.MaxCounter+1) >> r.Intn(48)
}

// hexed: bytes of a text as the chapters write them.
func hexed(text string) []byte {
	b, err := hex.DecodeString(strings.ReplaceAll(text, " ", ""))
	if err != nil {
		panic(err)
	}
	return b
}

// far: numbers outside least to most.
func far(least, most int) []int { return []int{least - 1, most + 1, math.MinInt, math.MaxInt} }

// turned left, as 32 bits.
func turned(n, places int) int { return n<<places%word | n>>(32-places) }

// slowStir of four numbers.
func slowStir(a, b, c, d int) (int, int, int, int) {
	a = (a + b) % word
	d = turned(d^a, 13)
	c = (c + d) % word
	b = turned(b^c, 9)
	a = (a + b) % word
	d = turned(d^a, 17)
	c = (c + d) % word
	b = turned(b^c, 5)
	return a, b, c, d
}

// slowBlock, from the words of the chapter.
func slowBlock(words []int, counter, index int) []byte {
	first := slices.Concat([]int{0x68726166, 0x2C6C6961, 0x79656B20, 0x64617020}, words)
	first = append(first, index, counter%word, counter/word, 0)
	l := slices.Clone(first)
	places := "0 4 8 c 1 5 9 d 2 6 a e 3 7 b f 0 5 a f 1 6 b c 2 7 8 d 3 4 9 e"
	for range 6 {
		for p := strings.Fields(places); len(p) > 0; p = p[4:] {
			at := func(i int) *int { return &l[strings.Index("0123456789abcdef", p[i])] }
			*at(0), *at(1), *at(2), *at(3) = slowStir(*at(0), *at(1), *at(2), *at(3))
		}
	}
	var out []byte
	for i, n := range l {
		for n, left := (n+first[i])%word, 4; left > 0; n, left = n/256, left-1 {
			out = append(out, byte(n%256))
		}
	}
	return out
}

// slowTag, by numbers of any size.
func slowTag(words []int, counter int, b []byte) []byte {
	prime := new(big.Int).Sub(new(big.Int).Lsh(big.NewInt(1), 61), big.NewInt(1))
	of := func(l []byte) *big.Int { return new(big.Int).SetBytes(l) }
	block := slowBlock(words, counter, 0)
	r, s := of(block[:8]), of(block[8:16])
	sum := big.NewInt(0)
	for len(b) > 0 {
		n := min(7, len(b))
		sum.Add(sum, of(append([]byte{1}, b[:n]...)))
		sum.Mod(sum.Mul(sum, r), prime)
		b = b[n:]
	}
	sum.Mod(sum.Add(sum, s), prime)
	return sum.FillBytes(make([]byte, 8))
}

func TestExamplesOfBlockAndTag(t *testing.T) {
	b, e := keys.Block(oneToEight(), 0, 0)
	if e != api.OK || len(b) != 64 || !bytes.HasPrefix(b, hexed("59 73 2F 7A")) {
		t.Errorf("%X %v", b, e)
	}
	b, e = keys.Tag(oneToEight(), 0, nil)
	if e != api.OK || !bytes.Equal(b, hexed("00 F4 09 E9 AA E4 EF D4")) {
		t.Errorf("%X %v", b, e)
	}
}

func TestBlock(t *testing.T) {
	r := rand.New(rand.NewSource(81))
	for range 3000 {
		words, counter := drawnWords(r), drawnCounter(r)
		index := []int{0, 1, 999, 1000, r.Intn(1001)}[r.Intn(5)]
		b, e := keys.Block(words, counter, index)
		if e != api.OK || !bytes.Equal(b, slowBlock(words, counter, index)) {
			t.Fatalf("%v %d %d: %X %v", words, counter, index, b, e)
		}
	}
}

func TestTag(t *testing.T) {
	r := rand.New(rand.NewSource(82))
	sizes := []int{0, 1, 6, 7, 8, 13, 14, 15, 999, 1007, 1999, 2000}
	for i := range 2000 {
		words, counter := drawnWords(r), drawnCounter(r)
		b := some(r, append(sizes, r.Intn(50))[i%(len(sizes)+1)])
		switch r.Intn(5) {
		case 0:
			clear(b)
		case 1:
			for j := range b {
				b[j] = 255
			}
		}
		tag, e := keys.Tag(words, counter, b)
		if e != api.OK || !bytes.Equal(tag, slowTag(words, counter, b)) {
			t.Fatalf("%v %d %X: %X %v", words, counter, b, tag, e)
		}
	}
}

// badWords: lists that are no key's, by what they are refused for.
func badWords() map[api.Errno][][]int {
	bad := map[api.Errno][][]int{api.ErrSize: {
		nil, {}, {1}, oneToEight()[:7], append(oneToEight(), 9), {-1}, append(oneToEight(), -1),
	}}
	for i := range 8 {
		for _, n := range far(0, word-1) {
			l := oneToEight()
			l[i] = n
			bad[api.ErrRange] = append(bad[api.ErrRange], l)
		}
	}
	return bad
}

// refusedBlock: do Block and Tag refuse it, for the same?
func refusedBlock(t *testing.T, want api.Errno, words []int, counter, index int, list []byte) {
	t.Helper()
	if b, e := keys.Block(words, counter, index); e != want || len(b) != 0 {
		t.Errorf("Block %v %d %d: %X %v, not %v", words, counter, index, b, e, want)
	}
	if index != 0 {
		return
	}
	if b, e := keys.Tag(words, counter, list); e != want || len(b) != 0 {
		t.Errorf("Tag %v %d: %X %v, not %v", words, counter, b, e, want)
	}
}

func TestBlockAndTagRefuse(t *testing.T) {
	long := make([]byte, 2*api.MaxSealed+1)
	for want, l := range badWords() {
		for _, words := range l {
			refusedBlock(t, want, words, 0, 0, nil)
			refusedBlock(t, want, words, -1, 0, long) // what the words are refused for comes first
			refusedBlock(t, want, words, 0, 1001, nil)
		}
	}
	for _, n := range far(0, api.MaxCounter) {
		refusedBlock(t, api.ErrRange, oneToEight(), n, 0, nil)
		refusedBlock(t, api.ErrRange, oneToEight(), n, 0, long)
	}
	for _, n := range far(0, 1000) {
		refusedBlock(t, api.ErrRange, oneToEight(), 0, n, nil)
	}
	for _, n := range []int{2001, 5000} {
		if b, e := keys.Tag(oneToEight(), 0, make([]byte, n)); e != api.ErrSize || len(b) != 0 {
			t.Errorf("%d bytes: %X %v", n, b, e)
		}
	}
	if _, e := keys.Tag(oneToEight(), api.MaxCounter, make([]byte, 2000)); e != api.OK {
		t.Error(e)
	}
}
