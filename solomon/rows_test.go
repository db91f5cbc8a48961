package solomon_test

import (
	"bytes"
	"math"
	"slices"
	"testing"

	"farhail/api"
	"farhail/solomon"
)

// slowWeave lays rows out one by one, as the chapter tells it.
func slowWeave(data []byte, depth, checks int) []byte {
	rows := make([][]byte, depth)
	for i, b := range data {
		rows[i%depth] = append(rows[i%depth], b)
	}
	block := bytes.Clone(data)
	for r := range rows {
		rows[r], _ = solomon.Encode(rows[r], checks)
	}
	for c := range checks {
		for _, row := range rows {
			block = append(block, row[len(row)-checks+c])
		}
	}
	return block
}

// slowUnweave decodes row by row, and looks where the mended block differs.
func slowUnweave(block []byte, depth, checks int, holes []int) ([]byte, []int, api.Errno) {
	size := len(block)/depth - checks
	data := make([]byte, size*depth)
	for r := range depth {
		var row []byte
		var own []int
		for i := r; i < len(block); i += depth {
			if slices.Contains(holes, i) {
				own = append(own, len(row))
			}
			row = append(row, block[i])
		}
		a, _, e := solomon.Decode(row, checks, own)
		if e != api.OK {
			return nil, nil, e
		}
		for i, b := range a {
			data[i*depth+r] = b
		}
	}
	return data, differences(block, slowWeave(data, depth, checks)), api.OK
}

// unweaves: is what Unweave answers this?
func unweaves(t *testing.T, block []byte, depth, checks int, holes []int, data []byte, places []int, want api.Errno) {
	t.Helper()
	a, p, e := solomon.Unweave(block, depth, checks, holes)
	if !bytes.Equal(a, data) || !slices.Equal(p, places) || e != want {
		t.Fatalf("Unweave of % x, %d, %d, %v: % x, %v, %v; wanted % x, %v, %v", block, depth, checks, holes, a, p, e, data, places, want)
	}
}

// P2.4
func TestWeave(t *testing.T) {
	block, e := solomon.Weave([]byte{1, 0, 0, 1}, 4, 2)
	if !bytes.Equal(block, []byte{1, 0, 0, 1, 6, 0, 0, 6, 8, 0, 0, 8}) || e != api.OK {
		t.Error(block, e)
	}
	d := die(11)
	for depth := 1; depth <= api.MaxDepth; depth++ {
		for _, checks := range []int{1, 2, 5, 64} {
			for _, size := range []int{1, 1 + d.below(40), api.MaxWord - checks} {
				data := d.bytes(size * depth)
				block, e := solomon.Weave(data, depth, checks)
				if e != api.OK || !bytes.Equal(block, slowWeave(data, depth, checks)) {
					t.Fatal(depth, checks, data, block, e)
				}
			}
		}
	}
}

// P2.4
func TestWeaveRefuses(t *testing.T) {
	for _, c := range []struct {
		n, depth, checks int
		want             api.Errno
	}{
		{8, 0, 2, api.ErrSize}, {8, -1, 2, api.ErrSize}, {9, 9, 2, api.ErrSize}, {8, math.MinInt, 2, api.ErrSize}, {8, math.MaxInt, 2, api.ErrSize},
		{8, 2, 0, api.ErrSize}, {8, 2, 65, api.ErrSize}, {8, 2, -2, api.ErrSize}, {8, 2, math.MinInt, api.ErrSize}, {8, 2, math.MaxInt, api.ErrSize},
		{0, 1, 2, api.ErrSize}, {0, 8, 2, api.ErrSize}, {7, 2, 2, api.ErrSize}, {1, 8, 2, api.ErrSize}, {17, 8, 2, api.ErrSize},
		{254, 1, 2, api.ErrSize}, {8 * 254, 8, 2, api.ErrSize}, {2 * 192, 2, 64, api.ErrSize}, {1 << 20, 8, 2, api.ErrSize},
		{253, 1, 2, api.OK}, {8 * 253, 8, 2, api.OK}, {2 * 191, 2, 64, api.OK}, {8, 8, 64, api.OK}, {1, 1, 1, api.OK},
	} {
		block, e := solomon.Weave(make([]byte, c.n), c.depth, c.checks)
		if e != c.want || e != api.OK && len(block) > 0 || e == api.OK && len(block) != c.n+c.depth*c.checks {
			t.Error(c, block, e)
		}
	}
}

// P2.5: blocks that are spoilt here and there, with holes and without.
func TestUnweave(t *testing.T) {
	d := die(12)
	lost := 0
	for range 600 {
		depth, checks := 1+d.below(api.MaxDepth), 1+d.below(10)
		block, _ := solomon.Weave(d.bytes(depth*(1+d.below(20))), depth, checks)
		chosen := d.places(len(block), d.below(min(len(block), depth*checks)))
		word := d.spoil(block, chosen[d.below(len(chosen)+1):])
		holes := chosen[:d.below(len(chosen)+1)]
		data, places, e := slowUnweave(word, depth, checks, holes)
		unweaves(t, word, depth, checks, holes, data, places, e)
		if e != api.OK {
			lost++
		}
	}
	if lost < 100 || lost > 500 {
		t.Error("lost:", lost)
	}
}

// P2.5: a stretch of half the checks times depth is mended wherever it lies, and, as holes, one of all of them.
func TestUnweaveOfStretches(t *testing.T) {
	d := die(13)
	for _, depth := range []int{1, 2, 5, 8} {
		for _, checks := range []int{1, 2, 3, 6} {
			data := d.bytes(depth * 9)
			block, _ := solomon.Weave(data, depth, checks)
			unweaves(t, block, depth, checks, nil, data, nil, api.OK)
			for at := range len(block) {
				var stretch []int
				for i := at; i < min(len(block), at+depth*checks); i++ {
					stretch = append(stretch, i)
				}
				half := stretch[:min(len(stretch), depth*(checks/2))]
				unweaves(t, d.spoil(block, half), depth, checks, nil, data, half, api.OK)
				unweaves(t, d.spoil(block, stretch), depth, checks, stretch, data, stretch, api.OK)
			}
		}
	}
}

// P2.5: one row that is lost loses the block, whichever it is; and too many holes of one row do.
func TestUnweaveOfLostRows(t *testing.T) {
	d := die(14)
	depth, checks := 8, 2
	data := d.bytes(depth * 3)
	block, _ := solomon.Weave(data, depth, checks)
	for r := range depth {
		word := bytes.Clone(block)
		bad := []byte{5, 6, 0} // behind two noughts: as far from all code words
		for i := range 5 {
			word[i*depth+r] = append([]byte{0, 0}, bad...)[i]
		}
		_, _, alone := solomon.Decode([]byte{0, 0, 5, 6, 0}, checks, nil)
		if alone != api.ErrLost {
			t.Fatal(alone)
		}
		unweaves(t, word, depth, checks, nil, nil, nil, api.ErrLost)
		holes := []int{r, depth + r, 2*depth + r}
		unweaves(t, block, depth, checks, holes, nil, nil, api.ErrLost)
		unweaves(t, block, depth, checks, holes[:2], data, nil, api.OK)
	}
}

// P2.5: which error is told, where several apply.
func TestUnweaveRefuses(t *testing.T) {
	for _, c := range []struct {
		n, depth, checks int
		holes            []int
		want             api.Errno
	}{
		{8, 0, 2, nil, api.ErrSize}, {8, -1, 2, nil, api.ErrSize}, {36, 9, 2, nil, api.ErrSize}, {8, math.MinInt, 2, nil, api.ErrSize}, {8, math.MaxInt, 2, nil, api.ErrSize},
		{8, 2, 0, nil, api.ErrSize}, {8, 2, -1, nil, api.ErrSize}, {200, 2, 65, nil, api.ErrSize}, {8, 2, math.MinInt, nil, api.ErrSize}, {8, 2, math.MaxInt, nil, api.ErrSize},
		{0, 1, 1, nil, api.ErrSize}, {9, 2, 2, nil, api.ErrSize}, {4, 2, 2, nil, api.ErrSize}, {16, 8, 2, nil, api.ErrSize}, {25, 8, 2, nil, api.ErrSize},
		{256, 1, 2, nil, api.ErrSize}, {8 * 256, 8, 2, nil, api.ErrSize}, {9, 2, 2, []int{-1, 1, 1}, api.ErrSize}, {4, 2, 2, []int{4}, api.ErrSize},
		{8, 2, 2, []int{8}, api.ErrRange}, {8, 2, 2, []int{-1}, api.ErrRange}, {8, 2, 2, []int{1, 1, 8}, api.ErrRange}, {8, 2, 2, []int{math.MaxInt}, api.ErrRange},
		{8, 2, 2, []int{math.MinInt}, api.ErrRange}, {8, 2, 2, []int{0, 2, 4, 9}, api.ErrRange},
		{8, 2, 2, []int{7, 7}, api.ErrTwice}, {8, 2, 2, []int{0, 2, 4, 0}, api.ErrTwice},
		{8, 2, 2, []int{0, 2, 4}, api.ErrLost}, {8, 2, 2, []int{1, 3, 7}, api.ErrLost},
		{8, 2, 2, []int{0, 1, 2, 3}, api.OK}, {8 * 255, 8, 64, []int{2039}, api.OK}, {2, 1, 1, nil, api.OK}, {24, 8, 2, nil, api.OK},
	} {
		data, places, e := solomon.Unweave(make([]byte, c.n), c.depth, c.checks, c.holes)
		if e != c.want || len(places) > 0 || e != api.OK && len(data) > 0 || e == api.OK && len(data) != c.n-c.depth*c.checks {
			t.Error(c, data, places, e)
		}
	}
}

// lent: a list with spare room behind it that is filled, and a look at whether both are as they were.
func lent[T comparable](list []T, fill T) ([]T, func() bool) {
	whole := append(slices.Clone(list), fill, fill, fill)
	whole = whole[:len(list)+3]
	before := slices.Clone(whole)
	return whole[:len(list)], func() bool { return slices.Equal(whole, before) }
}

// scribble fills a list and its spare room.
func scribble[T any](list []T, fill T) {
	list = list[:cap(list)]
	for i := range list {
		list[i] = fill
	}
}

// What holds everywhere: what is handed in stays as it is; what comes out is new memory.
func TestListsAreNotShared(t *testing.T) {
	d := die(15)
	plain := d.bytes(12)
	good, _ := solomon.Weave(plain, 3, 4)
	word, _ := solomon.Encode(plain, 4)
	data, dataKept := lent(plain, 0xA5)
	block, blockKept := lent(d.spoil(good, []int{1, 5, 9}), 0xA5)
	spoilt, spoiltKept := lent(d.spoil(word, []int{2, 7}), 0xA5)
	clean, cleanKept := lent(word, 0xA5)
	holes, holesKept := lent([]int{9, 2, 5}, -7)
	for range 2 {
		a, _ := solomon.Encode(data, 4)
		b, _ := solomon.Weave(data, 3, 4)
		c, p, e := solomon.Decode(spoilt, 4, holes[:2])
		f, q, g := solomon.Unweave(block, 3, 4, holes)
		h, _, k := solomon.Decode(clean, 4, nil)
		if !bytes.Equal(a, word) || !bytes.Equal(b, good) || !bytes.Equal(h, plain) || e != api.OK || g != api.OK || k != api.OK {
			t.Fatal(a, b, h, e, g, k)
		}
		if !bytes.Equal(c, plain) || !bytes.Equal(f, plain) || !slices.Equal(p, []int{2, 7}) || !slices.Equal(q, []int{1, 5, 9}) {
			t.Fatal(c, p, f, q)
		}
		for _, list := range [][]byte{a, b, c, f, h} {
			scribble(list, 0x5A)
		}
		scribble(p, -1)
		scribble(q, -1)
		if !dataKept() || !blockKept() || !spoiltKept() || !cleanKept() || !holesKept() {
			t.Fatal("what was handed in has changed")
		}
	}
}
