package deliver

import (
	"slices"

	"farhail/api"
)

const (
	maxID  = 65535
	maxSum = 1<<32 - 1
)

// How many bytes the numbers of a note have.
const (
	smallBytes  = 1
	idBytes     = 2
	numberBytes = 4
)

// maxBytes: no note is longer than the longest piece.
const maxBytes = smallBytes + idBytes + numberBytes + api.MaxPiece

func within(n, least, most int) bool { return least <= n && n <= most }

// wrongNote: why a note is not for the file of an ID, or for one who hears these kinds.
func wrongNote(n api.Note, id int, kinds ...api.NoteKind) api.Errno {
	switch {
	case !noteMayBe(n):
		return api.ErrForm
	case n.ID != id:
		return api.ErrName
	case !slices.Contains(kinds, n.Kind):
		return api.ErrKind
	}
	return api.OK
}

func noteMayBe(n api.Note) bool { return within(n.ID, 0, maxID) && partsMayBe(n) && bare(n) }

// partsMayBe: may the fields be that a note's kind uses?
func partsMayBe(n api.Note) bool {
	switch n.Kind {
	case api.Meta:
		return nameMayBe(n.Name) && within(n.Size, 0, api.MaxFile)
	case api.Piece:
		return within(n.At, 0, api.MaxFile-1) && within(len(n.Data), 1, min(api.MaxPiece, api.MaxFile-n.At))
	case api.End:
		return within(n.Size, 0, api.MaxFile) && within(n.Sum, 0, maxSum)
	case api.Gaps:
		return within(len(n.Gaps), 1, api.MaxGaps) && gapsMayBe(n.Gaps, api.MaxFile)
	case api.Done:
		return n.Code == api.OK || n.Code == api.ErrSum
	case api.Seen:
		return n.Of == api.End || n.Of == api.Done
	}
	return false
}

// bare: is there nothing in the fields that a note's kind does not use?
func bare(n api.Note) bool {
	switch n.Kind {
	case api.Meta:
		n.Name, n.Size = "", 0
	case api.Piece:
		n.At, n.Data = 0, nil
	case api.End:
		n.Size, n.Sum = 0, 0
	case api.Gaps:
		n.Gaps = nil
	case api.Done:
		n.Code = 0
	case api.Seen:
		n.Of = 0
	}
	return n.Name == "" && n.Size == 0 && n.Sum == 0 && n.At == 0 &&
		len(n.Data) == 0 && len(n.Gaps) == 0 && n.Of == 0 && n.Code == 0
}

func nameMayBe(name string) bool { return within(len(name), 1, api.MaxTitle) }

// noteBytes of a note that may be.
func noteBytes(n api.Note) []byte {
	b := put(nil, smallBytes, int(n.Kind))
	b = put(b, idBytes, n.ID)
	switch n.Kind {
	case api.Meta:
		b = append(put(b, numberBytes, n.Size), n.Name...)
	case api.Piece:
		b = append(put(b, numberBytes, n.At), n.Data...)
	case api.End:
		b = put(b, numberBytes, n.Size, n.Sum)
	case api.Gaps:
		for _, g := range n.Gaps {
			b = put(b, numberBytes, g[:]...)
		}
	case api.Done:
		b = put(b, smallBytes, int(n.Code))
	case api.Seen:
		b = put(b, smallBytes, int(n.Of))
	}
	return b
}

// put numbers behind bytes, each as so many bytes, the highest one first.
func put(b []byte, wide int, numbers ...int) []byte {
	for _, n := range numbers {
		for i := range wide {
			b = append(b, byte(n>>((wide-1-i)*8)))
		}
	}
	return b
}

// early is what is given up with when bytes end too early: so many more were needed.
type early int

// reader has the bytes that are not yet read.
type reader struct{ left []byte }

// number of the next so many bytes.
func (r *reader) number(wide int) int {
	if len(r.left) < wide {
		panic(early(wide - len(r.left)))
	}
	n := 0
	for _, b := range r.left[:wide] {
		n = n<<8 | int(b)
	}
	r.left = r.left[wide:]
	return n
}

// rest: all bytes that are left.
func (r *reader) rest() []byte {
	b := slices.Clone(r.left)
	r.left = nil
	return b
}

// readNote: what bytes tell, whether that may be or not.
func readNote(b []byte) (n api.Note, e api.Errno) {
	if len(b) > maxBytes {
		return api.Note{}, api.ErrForm
	}
	defer func() {
		switch why := recover().(type) {
		case nil:
		case early:
			n, e = api.Note{}, api.ErrForm
		default:
			panic(why)
		}
	}()
	r := &reader{left: b}
	n = r.note()
	if len(r.left) > 0 {
		return api.Note{}, api.ErrForm
	}
	return n, api.OK
}

func (r *reader) note() api.Note {
	n := api.Note{Kind: api.NoteKind(r.number(smallBytes)), ID: r.number(idBytes)}
	switch n.Kind {
	case api.Meta:
		n.Size = r.number(numberBytes)
		n.Name = string(r.rest())
	case api.Piece:
		n.At = r.number(numberBytes)
		n.Data = r.rest()
	case api.End:
		n.Size = r.number(numberBytes)
		n.Sum = r.number(numberBytes)
	case api.Gaps:
		for len(r.left) > 0 {
			begin := r.number(numberBytes)
			n.Gaps = append(n.Gaps, span{begin, r.number(numberBytes)})
		}
	case api.Done:
		n.Code = api.Errno(r.number(smallBytes))
	case api.Seen:
		n.Of = api.NoteKind(r.number(smallBytes))
	}
	return n
}
