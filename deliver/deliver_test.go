package deliver_test

import (
	"bytes"
	"encoding/hex"
	"fmt"
	"math"
	"math/big"
	"math/rand"
	"slices"
	"strings"
	"testing"

	"farhail/api"
	"farhail/deliver"
)

const maxSum = 1<<32 - 1

type span = [2]int

// some bytes that look drawn.
func some(r *rand.Rand, n int) []byte {
	b := make([]byte, n)
	for i := range b {
		b[i] = byte(r.Intn(256))
	}
	return b
}

// hexed: bytes of a text as the chapters write them.
func hexed(text string) []byte {
	b, err := hex.DecodeString(strings.ReplaceAll(text, " ", ""))
	if err != nil {
		panic(err)
	}
	return b
}

// far: numbers outside least to most.
func far(least, most int) []int { return []int{least - 1, most + 1, math.MinInt, math.MaxInt} }

// told: all that can be seen of values; an empty list is nil or not.
func told(values ...any) string { return fmt.Sprintf("%+v", values) }

// in: is a number from least to most?
func in(n, least, most int) bool { return n >= least && n <= most }

// gapMayBe of a file of so many bytes.
func gapMayBe(s span, size int) bool {
	return s[0] == 0 && s[1] == 0 || s[0] >= 0 && s[0] < s[1] && s[1] <= size
}

// slowMayBe: may a note be?
func slowMayBe(n api.Note) bool {
	unused := map[string]bool{
		"Name": n.Name != "", "Size": n.Size != 0, "Sum": n.Sum != 0, "At": n.At != 0,
		"Data": len(n.Data) > 0, "Gaps": len(n.Gaps) > 0, "Of": n.Of != 0, "Code": n.Code != 0,
	}
	uses := map[api.NoteKind]string{
		api.Meta: "Name Size", api.Piece: "At Data", api.End: "Size Sum", api.Gaps: "Gaps", api.Done: "Code", api.Seen: "Of",
	}
	for _, name := range strings.Fields(uses[n.Kind]) {
		delete(unused, name)
	}
	for _, full := range unused {
		if full {
			return false
		}
	}
	ok := in(n.ID, 0, 65535) && in(n.Size, 0, 65536) && in(n.Sum, 0, maxSum)
	switch n.Kind {
	case api.Meta:
		return ok && len(n.Name) > 0 && len(n.Name) <= 32
	case api.Piece:
		return ok && in(n.At, 0, 65535) && in(len(n.Data), 1, 1024) && n.At+len(n.Data) <= 65536
	case api.Gaps:
		for _, g := range n.Gaps {
			ok = ok && gapMayBe(g, 65536)
		}
		return ok && in(len(n.Gaps), 1, 20)
	case api.Done:
		return ok && (n.Code == 0 || n.Code == 9)
	case api.Seen:
		return ok && (n.Of == 3 || n.Of == 5)
	}
	return ok && n.Kind == api.End
}

// slowBytes of a note that may be.
func slowBytes(n api.Note) []byte {
	hexes := fmt.Sprintf("%02X%04X", int(n.Kind), n.ID)
	switch n.Kind {
	case api.Meta:
		hexes += fmt.Sprintf("%08X%X", n.Size, n.Name)
	case api.Piece:
		hexes += fmt.Sprintf("%08X%X", n.At, n.Data)
	case api.End:
		hexes += fmt.Sprintf("%08X%08X", n.Size, n.Sum)
	case api.Gaps:
		for _, g := range n.Gaps {
			hexes += fmt.Sprintf("%08X%08X", g[0], g[1])
		}
	case api.Done:
		hexes += fmt.Sprintf("%02X", int(n.Code))
	case api.Seen:
		hexes += fmt.Sprintf("%02X", int(n.Of))
	}
	return hexed(hexes)
}

// slowSum, as one great number of each group.
func slowSum(b []byte) int {
	sum := big.NewInt(0)
	padded := append(slices.Clone(b), 0, 0, 0)
	for i := 0; i < len(b); i += 4 {
		sum.Add(sum, new(big.Int).SetBytes(padded[i:i+4]))
	}
	return int(sum.Mod(sum, big.NewInt(1<<32)).Int64())
}

// one of some.
func one[T any](r *rand.Rand, l ...T) T { return l[r.Intn(len(l))] }

// drawnGap of a file of so many bytes, or nearly.
func drawnGap(r *rand.Rand, size int) span {
	begin := r.Intn(size + 1)
	return one(r, span{}, span{begin, begin + 1 + r.Intn(9)}, span{0, 1 + r.Intn(size+1)})
}

// drawnNote that may be, of a kind, about a file of some few bytes.
func drawnNote(r *rand.Rand, id int, kind api.NoteKind, size int) api.Note {
	n := api.Note{Kind: kind, ID: id}
	switch kind {
	case api.Meta:
		n.Name, n.Size = string(some(r, 1+r.Intn(32))), r.Intn(size+1)
	case api.Piece:
		n.At, n.Data = r.Intn(size+1), some(r, 1+r.Intn(9))
	case api.End:
		n.Size, n.Sum = r.Intn(size+1), one(r, r.Intn(1<<32), 0, maxSum)
	case api.Gaps:
		for range 1 + r.Intn(one(r, 3, 20)) {
			n.Gaps = append(n.Gaps, drawnGap(r, size))
		}
	case api.Done:
		n.Code = one(r, api.OK, api.ErrSum)
	case api.Seen:
		n.Of = one(r, api.End, api.Done)
	}
	return n
}

func allKinds() []api.NoteKind { return []api.NoteKind{1, 2, 3, 4, 5, 6} }

func TestExamples(t *testing.T) {
	if n := deliver.Sum([]byte{1, 2, 3, 4, 5}); n != 0x06020304 {
		t.Errorf("%X", n)
	}
	end := api.Note{Kind: api.End, ID: 3, Size: 5, Sum: 0x06020304}
	bytesOfIt := hexed("03 00 03 00 00 00 05 06 02 03 04")
	if b, e := deliver.Encode(end); e != api.OK || !bytes.Equal(b, bytesOfIt) {
		t.Errorf("%X %v", b, e)
	}
	if n, e := deliver.Decode(bytesOfIt); e != api.OK || told(n) != told(end) {
		t.Errorf("%+v %v", n, e)
	}
}

func TestSum(t *testing.T) {
	r := rand.New(rand.NewSource(91))
	for i := range 300 {
		b := some(r, i)
		if i%3 == 0 {
			b = bytes.Repeat([]byte{255}, i)
		}
		if n := deliver.Sum(b); n != slowSum(b) {
			t.Fatalf("%X: %X", b, n)
		}
	}
	all := bytes.Repeat([]byte{255}, 2*api.MaxFile)
	if n := deliver.Sum(all); n != slowSum(all) || deliver.Sum(nil) != 0 {
		t.Errorf("%X", n)
	}
}

// edgeNotes: the least and the greatest that may be, of each kind.
func edgeNotes() []api.Note {
	long := strings.Repeat("\xff", 32)
	gaps := slices.Repeat([]span{{65535, 65536}, {}, {0, 65536}, {0, 1}}, 5)
	return []api.Note{
		{Kind: api.Meta, Name: "\x00"},
		{Kind: api.Meta, ID: 65535, Name: long, Size: 65536},
		{Kind: api.Meta, ID: 256, Name: "a\xffb", Size: 256, Data: []byte{}, Gaps: []span{}},
		{Kind: api.Piece, Data: []byte{0}},
		{Kind: api.Piece, ID: 65535, At: 65535, Data: []byte{255}},
		{Kind: api.Piece, At: 64512, Data: bytes.Repeat([]byte{7}, 1024)},
		{Kind: api.End}, {Kind: api.End, ID: 65535, Size: 65536, Sum: maxSum},
		{Kind: api.Gaps, Gaps: []span{{}}}, {Kind: api.Gaps, ID: 65535, Gaps: gaps},
		{Kind: api.Done}, {Kind: api.Done, ID: 65535, Code: api.ErrSum},
		{Kind: api.Seen, Of: api.End}, {Kind: api.Seen, ID: 65535, Of: api.Done},
	}
}

// crosses: is a note as bytes what it should be, and itself again?
func crosses(t *testing.T, n api.Note) {
	t.Helper()
	b, e := deliver.Encode(n)
	if e != api.OK || !bytes.Equal(b, slowBytes(n)) {
		t.Fatalf("%+v: %X %v", n, b, e)
	}
	again, e := deliver.Decode(b)
	if e != api.OK || told(again) != told(n) {
		t.Fatalf("%+v: %X %+v %v", n, b, again, e)
	}
}

func TestNotesCross(t *testing.T) {
	for _, n := range edgeNotes() {
		crosses(t, n)
	}
	r := rand.New(rand.NewSource(92))
	for range 3000 {
		crosses(t, drawnNote(r, r.Intn(65536), one(r, allKinds()...), 60000))
	}
}

// changedNote: one of its fields is another one.
func changedNote(r *rand.Rand, n api.Note) api.Note {
	edges := []int{-1, 0, 1, 2, 65535, 65536, 65537, maxSum, maxSum + 1, math.MinInt, math.MaxInt}
	switch r.Intn(10) {
	case 0:
		n.Kind = api.NoteKind(one(r, 0, 1, 2, 3, 4, 5, 6, 7, -1, 257, math.MaxInt, math.MinInt))
	case 1:
		n.ID = one(r, edges...)
	case 2:
		n.Name = strings.Repeat("x", one(r, 0, 1, 32, 33, 40))
	case 3:
		n.Size = one(r, edges...)
	case 4:
		n.Sum = one(r, edges...)
	case 5:
		n.At = one(r, append(edges, 64511, 64512, 64513)...)
	case 6:
		n.Data = some(r, one(r, 0, 1, 2, 1023, 1024, 1025))
	case 7:
		n.Gaps = slices.Repeat([]span{drawnGap(r, 100)}, one(r, 0, 1, 2, 19, 20, 21))
		if len(n.Gaps) > 0 {
			n.Gaps[r.Intn(len(n.Gaps))] = span{one(r, edges...), one(r, edges...)}
		}
	case 8:
		n.Of = api.NoteKind(one(r, 0, 1, 2, 3, 4, 5, 6, 259, -3))
	case 9:
		n.Code = api.Errno(one(r, 0, 1, 8, 9, 10, 256, 265, -9))
	}
	return n
}

func TestEncodeRefuses(t *testing.T) {
	r := rand.New(rand.NewSource(93))
	count := map[bool]int{}
	for range 20000 {
		n := changedNote(r, one(r, append(edgeNotes(), drawnNote(r, 5, one(r, allKinds()...), 100))...))
		may := slowMayBe(n)
		count[may]++
		if may {
			crosses(t, n)
		} else if b, e := deliver.Encode(n); e != api.ErrForm || len(b) > 0 {
			t.Fatalf("%+v: %X %v", n, b, e)
		}
	}
	if count[true] < 2000 || count[false] < 2000 {
		t.Error(count)
	}
	if b, e := deliver.Encode(api.Note{}); e != api.ErrForm || len(b) > 0 {
		t.Errorf("%X %v", b, e)
	}
}

// slowDecode: of all notes of a kind the one that has these bytes, found by how they must lie.
func slowDecode(b []byte) (api.Note, bool) {
	number := func(from, to int) int { return int(new(big.Int).SetBytes(b[from:to]).Int64()) }
	if len(b) < 4 {
		return api.Note{}, false
	}
	n := api.Note{Kind: api.NoteKind(b[0]), ID: number(1, 3)}
	switch size := len(b); {
	case n.Kind == api.Meta && size >= 7:
		n.Size, n.Name = number(3, 7), string(b[7:])
	case n.Kind == api.Piece && size >= 7:
		n.At, n.Data = number(3, 7), b[7:]
	case n.Kind == api.End && size == 11:
		n.Size, n.Sum = number(3, 7), number(7, 11)
	case n.Kind == api.Gaps && size%8 == 3:
		for i := 3; i < size; i += 8 {
			n.Gaps = append(n.Gaps, span{number(i, i+4), number(i+4, i+8)})
		}
	case n.Kind == api.Done && size == 4:
		n.Code = api.Errno(b[3])
	case n.Kind == api.Seen && size == 4:
		n.Of = api.NoteKind(b[3])
	default:
		return api.Note{}, false
	}
	return n, slowMayBe(n)
}

// decodes: is what Decode tells of bytes what it should?
func decodes(t *testing.T, b []byte) bool {
	t.Helper()
	want, may := slowDecode(b)
	n, e := deliver.Decode(b)
	if may && (e != api.OK || told(n) != told(want)) {
		t.Fatalf("%X: %+v %v", b, n, e)
	}
	if !may && (e != api.ErrForm || told(n) != told(api.Note{})) {
		t.Fatalf("%X: %+v %v", b, n, e)
	}
	return may
}

func TestDecodeWhatIsSpoilt(t *testing.T) {
	r := rand.New(rand.NewSource(94))
	count := map[bool]int{}
	for range 20000 {
		b := slowBytes(one(r, append(edgeNotes(), drawnNote(r, r.Intn(65536), one(r, allKinds()...), 60000))...))
		switch r.Intn(3) {
		case 0:
			b = b[:r.Intn(len(b)+1)]
		case 1:
			b = append(b, some(r, one(r, 1, 2, 8, 1017))...)
		case 2:
			b[r.Intn(min(len(b), 12))] = byte(one(r, 0, 1, 2, 3, 5, 9, 255))
		}
		count[decodes(t, b)]++
	}
	if count[true] < 2000 || count[false] < 2000 {
		t.Error(count)
	}
}

func TestDecodeWhatEndsTooEarly(t *testing.T) {
	for _, n := range edgeNotes() {
		b := slowBytes(n)
		for i := range len(b) + 1 {
			decodes(t, b[:i])
			decodes(t, append(slices.Clone(b), b[:i]...))
		}
	}
	for _, n := range []int{0, 1, 2, 3, 1031, 1032, 3000, 1 << 20} {
		for kind := range 256 {
			b := make([]byte, n)
			if n > 0 {
				b[0] = byte(kind)
			}
			if n < 1<<20 || kind < 8 {
				decodes(t, b)
			}
		}
	}
}
