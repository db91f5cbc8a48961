package stream_test

import (
	"bytes"
	"math/rand"
	"testing"

	"farhail/api"
	"farhail/stream"
)

// slowRow: so many bits of the row by which bytes are scrambled, as the chapter has it.
func slowRow(n int) []byte {
	s := []byte{1, 1, 1, 1, 1, 1, 1, 1}
	for len(s) < n {
		i := len(s)
		s = append(s, (s[i-1]+s[i-3]+s[i-5]+s[i-8])%2)
	}
	return s[:n]
}

// slowScramble: bit by bit.
func slowScramble(b []byte) []byte {
	row := slowRow(8 * len(b))
	out := make([]byte, len(b))
	for i, x := range b {
		for k := range 8 {
			bit := x >> (7 - k) & 1
			out[i] |= (bit ^ row[8*i+k]) << (7 - k)
		}
	}
	return out
}

// slowBits: by asking for each place.
func slowBits(b []byte) []byte {
	var out []byte
	for _, x := range b {
		for _, place := range []byte{128, 64, 32, 16, 8, 4, 2, 1} {
			if x&place != 0 {
				out = append(out, 1)
			} else {
				out = append(out, 0)
			}
		}
	}
	return out
}

// some bytes that look drawn.
func some(r *rand.Rand, n int) []byte {
	b := make([]byte, n)
	for i := range b {
		b[i] = byte(r.Intn(256))
	}
	return b
}

// roomy: a list with spare room, and that room, which is full of nines.
func roomy(b []byte) (list, room []byte) {
	all := append(append([]byte{}, b...), bytes.Repeat([]byte{9}, 16)...)
	return all[:len(b)], all[len(b):]
}

// spoil whatever can be reached from an answer.
func spoil(b []byte) {
	b = b[:cap(b)]
	for i := range b {
		b[i] ^= 0x55
	}
}

// untouched: did an answer leave alone what was handed in, and does it share nothing with it?
func untouched(t *testing.T, what string, b []byte, call func([]byte) []byte) {
	t.Helper()
	list, room := roomy(b)
	out := call(list)
	want := append([]byte{}, out...)
	again := call(list)
	spoil(out)
	if !bytes.Equal(list, b) || !bytes.Equal(room, bytes.Repeat([]byte{9}, 16)) {
		t.Errorf("%s: what was handed in is changed", what)
	}
	spoil(list)
	if !bytes.Equal(again, want) {
		t.Errorf("%s: an answer shares memory", what)
	}
}

func TestScrambleRow(t *testing.T) {
	if got := stream.Scramble(make([]byte, 5)); !bytes.Equal(got, []byte{0xFF, 0x48, 0x0E, 0xC0, 0x9A}) {
		t.Errorf("the row begins %X", got)
	}
	for _, empty := range [][]byte{nil, {}} {
		if got := stream.Scramble(empty); len(got) != 0 {
			t.Errorf("nothing is scrambled to %v", got)
		}
	}
}

func TestScramble(t *testing.T) {
	r := rand.New(rand.NewSource(41))
	for n := range 600 {
		b := some(r, n)
		got := stream.Scramble(b)
		if !bytes.Equal(got, slowScramble(b)) {
			t.Fatalf("%X: %X", b, got)
		}
		if back := stream.Scramble(got); !bytes.Equal(back, b) {
			t.Fatalf("%X twice: %X", b, back)
		}
	}
	b := some(r, 100_000)
	if !bytes.Equal(stream.Scramble(b), slowScramble(b)) {
		t.Error("many bytes are scrambled otherwise")
	}
	untouched(t, "Scramble", some(r, 20), stream.Scramble)
}

func TestBits(t *testing.T) {
	for x := range 256 {
		b := []byte{byte(x), byte(x / 3)}
		if got := stream.Bits(b); !bytes.Equal(got, slowBits(b)) {
			t.Fatalf("%X: %v", b, got)
		}
	}
	if got := stream.Bits([]byte{0x81, 0x0E}); !bytes.Equal(got, []byte{1, 0, 0, 0, 0, 0, 0, 1, 0, 0, 0, 0, 1, 1, 1, 0}) {
		t.Errorf("81 0E: %v", got)
	}
	if got := stream.Bits(nil); len(got) != 0 {
		t.Errorf("bits of nothing: %v", got)
	}
	untouched(t, "Bits", []byte{1, 2, 3}, stream.Bits)
}

func TestBytes(t *testing.T) {
	r := rand.New(rand.NewSource(42))
	for n := range 100 {
		b := some(r, n)
		if got, e := stream.Bytes(slowBits(b)); e != api.OK || !bytes.Equal(got, b) {
			t.Fatalf("%X: %X, %v", b, got, e)
		}
	}
	untouched(t, "Bytes", slowBits([]byte{1, 2, 3}), func(l []byte) []byte {
		b, _ := stream.Bytes(l)
		return b
	})
}

func TestBytesRefused(t *testing.T) {
	for n := range 40 {
		got, e := stream.Bytes(make([]byte, n))
		if n%8 == 0 && (e != api.OK || len(got) != n/8) || n%8 != 0 && (e != api.ErrSize || len(got) != 0) {
			t.Errorf("%d bits: %v, %v", n, got, e)
		}
	}
	for at := range 24 {
		for _, x := range []byte{2, 3, 128, 255} {
			l := make([]byte, 24)
			l[at] = x
			if got, e := stream.Bytes(l); e != api.ErrRange || len(got) != 0 {
				t.Errorf("%d at %d: %v, %v", x, at, got, e)
			}
			if got, e := stream.Bytes(append(l, 0)); e != api.ErrSize || len(got) != 0 {
				t.Errorf("%d at %d, and a bit too many: %v, %v", x, at, got, e)
			}
		}
	}
}

func TestFrame(t *testing.T) {
	r := rand.New(rand.NewSource(43))
	mark := slowBits([]byte{0x1A, 0xCF, 0xFC, 0x1D})
	for _, n := range []int{1, 2, 3, 31, 32, 33, 255, 1000, api.MaxFrame - 1, api.MaxFrame} {
		b := some(r, n)
		want := append(append([]byte{}, mark...), slowBits(slowScramble(b))...)
		if got, e := stream.Frame(b); e != api.OK || !bytes.Equal(got, want) {
			t.Errorf("a frame of %d bytes: %v, %v", n, got, e)
		}
	}
	untouched(t, "Frame", some(r, 5), func(l []byte) []byte {
		b, _ := stream.Frame(l)
		return b
	})
}

func TestFrameRefused(t *testing.T) {
	for _, b := range [][]byte{nil, {}, make([]byte, api.MaxFrame+1), make([]byte, 5*api.MaxFrame)} {
		if got, e := stream.Frame(b); e != api.ErrSize || len(got) != 0 {
			t.Errorf("a frame of %d bytes: %d bits, %v", len(b), len(got), e)
		}
	}
}
