package packet_test

import (
	"bytes"
	"fmt"
	"math"
	"math/rand"
	"reflect"
	"strconv"
	"testing"

	"farhail/api"
	"farhail/packet"
)

// some bytes that look drawn.
func some(r *rand.Rand, n int) []byte {
	b := make([]byte, n)
	for i := range b {
		b[i] = byte(r.Intn(256))
	}
	return b
}

// slowBytes of a packet that may be: its head written as a text of noughts and ones.
func slowBytes(p api.Packet) []byte {
	up, second := 0, 0
	if p.Up {
		up = 1
	}
	if p.Second {
		second = 1
	}
	text := fmt.Sprintf("000%b%b%011b%02b%014b%016b", up, second, p.Apid, int(p.Part), p.Count, len(p.Data)-1)
	var out []byte
	for ; text != ""; text = text[8:] {
		n, err := strconv.ParseUint(text[:8], 2, 8)
		if err != nil {
			panic(err)
		}
		out = append(out, byte(n))
	}
	return append(out, p.Data...)
}

// drawn: a packet that may be.
func drawn(r *rand.Rand, size int) api.Packet {
	return api.Packet{
		Up:     r.Intn(2) == 0,
		Second: r.Intn(2) == 0,
		Apid:   r.Intn(api.MaxApid + 1),
		Part:   api.Part(r.Intn(4)),
		Count:  r.Intn(api.MaxCount + 1),
		Data:   some(r, size),
	}
}

// there and back: is a packet encoded as the chapter has it, and decoded to itself, whatever comes behind it?
func thereAndBack(t *testing.T, p api.Packet) {
	t.Helper()
	b, e := packet.Encode(p)
	if e != api.OK || !bytes.Equal(b, slowBytes(p)) {
		t.Fatalf("Encode %+v: %X %v", p, b, e)
	}
	for _, behind := range [][]byte{nil, {0}, {0xFF, 0xFF, 0xFF}} {
		q, n, e := packet.Decode(append(bytes.Clone(b), behind...))
		if e != api.OK || n != len(b) || !reflect.DeepEqual(q, p) {
			t.Fatalf("Decode %X and %X: %+v %d %v", b, behind, q, n, e)
		}
	}
}

func TestEncodeExample(t *testing.T) {
	b, e := packet.Encode(api.Packet{Apid: 5, Part: api.Whole, Count: 7, Data: []byte{0xAA, 0xBB}})
	if e != api.OK || !bytes.Equal(b, []byte{0x00, 0x05, 0xC0, 0x07, 0x00, 0x01, 0xAA, 0xBB}) {
		t.Errorf("%X %v", b, e)
	}
}

func TestEveryField(t *testing.T) {
	r := rand.New(rand.NewSource(51))
	data := some(r, 3)
	for apid := range api.MaxApid + 1 {
		thereAndBack(t, api.Packet{Apid: apid, Data: data})
	}
	for count := range api.MaxCount + 1 {
		thereAndBack(t, api.Packet{Count: count, Data: data})
	}
	for _, part := range []api.Part{api.Middle, api.First, api.Last, api.Whole} {
		for flags := range 4 {
			thereAndBack(t, api.Packet{Up: flags&1 != 0, Second: flags&2 != 0, Part: part, Data: data})
		}
	}
	for _, size := range []int{1, 2, 255, 256, 257, 65535, api.MaxData} {
		thereAndBack(t, drawn(r, size))
	}
	for range 2000 {
		thereAndBack(t, drawn(r, 1+r.Intn(30)))
	}
}

func TestEncodeRefuses(t *testing.T) {
	good := api.Packet{Up: true, Apid: 5, Part: api.Whole, Count: 7, Data: []byte{1}}
	try := func(want api.Errno, change func(*api.Packet)) {
		t.Helper()
		p := good
		change(&p)
		if b, e := packet.Encode(p); e != want || len(b) != 0 {
			t.Errorf("%+v: %X %v, not %v", p.Apid, b, e, want)
		}
	}
	for _, n := range []int{-1, api.MaxApid + 1, math.MinInt, math.MaxInt} {
		try(api.ErrRange, func(p *api.Packet) { p.Apid = n })
	}
	for _, n := range []api.Part{-1, 4, math.MinInt, math.MaxInt} {
		try(api.ErrRange, func(p *api.Packet) { p.Part = n })
	}
	for _, n := range []int{-1, api.MaxCount + 1, math.MinInt, math.MaxInt} {
		try(api.ErrRange, func(p *api.Packet) { p.Count = n })
	}
	for _, b := range [][]byte{nil, {}, make([]byte, api.MaxData+1)} {
		try(api.ErrSize, func(p *api.Packet) { p.Data = b })
		try(api.ErrRange, func(p *api.Packet) { p.Data, p.Apid = b, -1 })
		try(api.ErrRange, func(p *api.Packet) { p.Data, p.Part = b, 4 })
		try(api.ErrRange, func(p *api.Packet) { p.Data, p.Count = b, -1 })
	}
}

func TestDecodeRefuses(t *testing.T) {
	try := func(want api.Errno, b []byte) {
		t.Helper()
		if p, n, e := packet.Decode(b); e != want || n != 0 || !reflect.DeepEqual(p, api.Packet{}) {
			t.Errorf("%X: %+v %d %v, not %v", b, p, n, e, want)
		}
	}
	whole := []byte{0x00, 0x05, 0xC0, 0x07, 0x00, 0x01, 0xAA, 0xBB}
	try(api.ErrMore, nil)
	for n := range len(whole) {
		try(api.ErrMore, whole[:n])
	}
	for _, bit := range []byte{0x80, 0x40, 0x20, 0xE0} {
		wrong := bytes.Clone(whole)
		wrong[0] |= bit
		for n := range len(wrong) + 1 {
			if n < 6 {
				try(api.ErrMore, wrong[:n])
			} else {
				try(api.ErrForm, wrong[:n])
			}
		}
	}
	long := append([]byte{0, 0, 0, 0, 0xFF, 0xFF}, make([]byte, api.MaxData)...)
	try(api.ErrMore, long[:len(long)-1])
	if p, n, e := packet.Decode(long); e != api.OK || n != api.MaxData+6 || len(p.Data) != api.MaxData {
		t.Errorf("%d bytes: %d %d %v", len(long), len(p.Data), n, e)
	}
}

func TestFill(t *testing.T) {
	if b, e := packet.Fill(7); e != api.OK || !bytes.Equal(b, []byte{0x07, 0xFF, 0xC0, 0, 0, 0, 0}) {
		t.Errorf("Fill(7): %X %v", b, e)
	}
	for _, n := range []int{7, 8, 100, 262, 263, api.MaxData + 5, api.MaxData + 6} {
		b, e := packet.Fill(n)
		if e != api.OK || len(b) != n {
			t.Fatalf("Fill(%d): %d bytes %v", n, len(b), e)
		}
		want := api.Packet{Apid: api.MaxApid, Part: api.Whole, Data: make([]byte, n-6)}
		if p, took, e := packet.Decode(b); e != api.OK || took != n || !reflect.DeepEqual(p, want) {
			t.Errorf("Fill(%d) is decoded to %+v %d %v", n, p, took, e)
		}
	}
	for _, n := range []int{6, 5, 0, -1, api.MaxData + 7, math.MinInt, math.MaxInt} {
		if b, e := packet.Fill(n); e != api.ErrSize || len(b) != 0 {
			t.Errorf("Fill(%d): %d bytes %v", n, len(b), e)
		}
	}
}

// roomy: a list with spare room, and that room, which is full of nines.
func roomy(b []byte) (list, room []byte) {
	all := append(append([]byte{}, b...), bytes.Repeat([]byte{9}, 16)...)
	return all[:len(b)], all[len(b):]
}

// spoil whatever can be reached from a list.
func spoil(b []byte) {
	b = b[:cap(b)]
	for i := range b {
		b[i] ^= 0x55
	}
}

// apart: does a call leave alone the list that is handed in, and share nothing with it, nor between the lists that it answers?
func apart(t *testing.T, what string, b []byte, call func([]byte) [][]byte) {
	t.Helper()
	list, room := roomy(b)
	first := call(list)
	var want [][]byte
	for _, l := range first {
		want = append(want, bytes.Clone(l))
	}
	for i, l := range first {
		if !bytes.Equal(l, want[i]) {
			t.Errorf("%s: list %d of the answer shares memory with another one", what, i)
		}
		spoil(l)
	}
	if !bytes.Equal(list, b) || !bytes.Equal(room, bytes.Repeat([]byte{9}, 16)) {
		t.Errorf("%s: what was handed in is changed", what)
	}
	again := call(list)
	spoil(list)
	for i, l := range again {
		if !bytes.Equal(l, want[i]) {
			t.Errorf("%s: list %d of the answer shares memory with what was handed in", what, i)
		}
	}
}

func TestMemoryApart(t *testing.T) {
	r := rand.New(rand.NewSource(52))
	apart(t, "Encode", some(r, 20), func(b []byte) [][]byte {
		out, _ := packet.Encode(api.Packet{Data: b})
		return [][]byte{out}
	})
	whole, _ := packet.Encode(api.Packet{Apid: 3, Data: some(r, 20)})
	apart(t, "Decode", append(whole, 1, 2, 3), func(b []byte) [][]byte {
		p, _, _ := packet.Decode(b)
		return [][]byte{p.Data}
	})
	for _, most := range []int{1, 7, 20, 30} {
		apart(t, "Cut", some(r, 20), func(b []byte) [][]byte {
			l, _ := packet.Cut(false, 1, 2, b, most)
			var out [][]byte
			for _, p := range l {
				out = append(out, p.Data)
			}
			return out
		})
	}
	for part := range api.Part(4) {
		for _, j := range []api.Joined{{Next: -1}, {Next: 2}, {Next: 2, Open: true, Unit: []byte{1, 2, 3}}, {Next: 3, Open: true, Unit: []byte{1, 2, 3}}} {
			what := fmt.Sprint("Join ", part, j)
			join := func(unit, data []byte) [][]byte {
				j := j
				j.Unit = unit
				out, told, _, _ := packet.Join(j, api.Packet{Part: part, Count: 2, Data: data})
				return [][]byte{out.Unit, told}
			}
			apart(t, what, some(r, 9), func(b []byte) [][]byte { return join(bytes.Clone(j.Unit), b) })
			apart(t, what, j.Unit, func(b []byte) [][]byte { return join(b, []byte{4, 5}) })
		}
	}
}
