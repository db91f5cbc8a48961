package frame_test

import (
	"bytes"
	"fmt"
	"math"
	"math/rand"
	"reflect"
	"slices"
	"strconv"
	"testing"

	"farhail/api"
	"farhail/frame"
)

// some bytes that look drawn.
func some(r *rand.Rand, n int) []byte {
	b := make([]byte, n)
	for i := range b {
		b[i] = byte(r.Intn(256))
	}
	return b
}

// slowSum: bit by bit, the register as a list of bits.
func slowSum(b []byte) int {
	register := make([]int, 16)
	for i := range register {
		register[i] = 1
	}
	for _, x := range b {
		for place := 7; place >= 0; place-- {
			turn := register[0] ^ int(x>>place&1)
			register = append(register[1:], 0)
			for _, at := range []int{3, 10, 15} {
				register[at] ^= turn
			}
		}
	}
	n := 0
	for _, bit := range register {
		n = 2*n + bit
	}
	return n
}

// bytesOf a text of noughts and ones.
func bytesOf(text string) []byte {
	var out []byte
	for ; text != ""; text = text[8:] {
		n, err := strconv.ParseUint(text[:8], 2, 8)
		if err != nil {
			panic(err)
		}
		out = append(out, byte(n))
	}
	return out
}

// summed: bytes, and their sum behind them.
func summed(b []byte) []byte {
	n := slowSum(b)
	return append(bytes.Clone(b), byte(n/256), byte(n%256))
}

// slowFrame of a head that may be: written as a text of noughts and ones.
func slowFrame(h api.Head, data []byte, status int) []byte {
	b := bytesOf(fmt.Sprintf("00%010b%03b1%08b%08b00011%011b", h.Craft, h.Channel, h.Master, h.Own, h.First))
	b = append(b, data...)
	return summed(append(b, bytesOf(fmt.Sprintf("%032b", status))...))
}

func TestSum(t *testing.T) {
	if n := frame.Sum([]byte("123456789")); n != 0x29B1 {
		t.Errorf("the example: %X", n)
	}
	for _, b := range [][]byte{nil, {}} {
		if n := frame.Sum(b); n != 0xFFFF {
			t.Errorf("nothing: %X", n)
		}
	}
	r := rand.New(rand.NewSource(61))
	for x := range 65536 {
		b := []byte{byte(x / 256), byte(x)}
		if n := frame.Sum(b); n != slowSum(b) {
			t.Fatalf("%X: %X, not %X", b, n, slowSum(b))
		}
	}
	for range 300 {
		b := some(r, r.Intn(300))
		if n := frame.Sum(b); n != slowSum(b) {
			t.Fatalf("%X: %X, not %X", b, n, slowSum(b))
		}
	}
}

// thereAndBack: is a frame packed as the chapter has it, and unpacked to what it was?
func thereAndBack(t *testing.T, h api.Head, data []byte, status int) {
	t.Helper()
	b, e := frame.Pack(h, data, status)
	if e != api.OK || !bytes.Equal(b, slowFrame(h, data, status)) {
		t.Fatalf("Pack %+v %X %d: %X %v", h, data, status, b, e)
	}
	g, got, n, e := frame.Unpack(b)
	if e != api.OK || g != h || !bytes.Equal(got, data) || n != status {
		t.Fatalf("Unpack %X: %+v %X %d %v", b, g, got, n, e)
	}
}

func TestEveryField(t *testing.T) {
	r := rand.New(rand.NewSource(62))
	data := some(r, 3)
	for n := range api.MaxCraft + 1 {
		thereAndBack(t, api.Head{Craft: n}, data, 0)
	}
	for n := range api.FillChannel + 1 {
		thereAndBack(t, api.Head{Channel: n}, data, 0)
	}
	for n := range 256 {
		thereAndBack(t, api.Head{Master: n}, data, 0)
		thereAndBack(t, api.Head{Own: n}, data, 0)
	}
	for n := range api.NoFirst + 1 {
		thereAndBack(t, api.Head{First: n}, data, 0)
	}
	for place := range 32 {
		thereAndBack(t, api.Head{}, data, 1<<place)
		thereAndBack(t, api.Head{}, data, 1<<32-1-1<<place)
	}
	thereAndBack(t, api.Head{}, data, 4294967295)
	for _, n := range []int{1, 2, 255, 256, 2035, 2036} {
		thereAndBack(t, drawnHead(r), some(r, n), r.Intn(1<<32))
	}
	for range 2000 {
		thereAndBack(t, drawnHead(r), some(r, 1+r.Intn(30)), r.Intn(1<<32))
	}
}

// drawnHead: one that may be.
func drawnHead(r *rand.Rand) api.Head {
	return api.Head{Craft: r.Intn(1024), Channel: r.Intn(8), Master: r.Intn(256), Own: r.Intn(256), First: r.Intn(2048)}
}

// far: numbers outside 0 to most.
func far(most int) []int { return []int{-1, most + 1, math.MinInt, math.MaxInt} }

func TestPackRefuses(t *testing.T) {
	try := func(want api.Errno, h api.Head, data []byte, status int) {
		t.Helper()
		if b, e := frame.Pack(h, data, status); e != want || len(b) != 0 {
			t.Errorf("%+v, %d bytes, %d: %X %v, not %v", h, len(data), status, b, e, want)
		}
	}
	for _, data := range [][]byte{{1}, nil, make([]byte, 2037)} {
		for _, n := range far(api.MaxCraft) {
			try(api.ErrRange, api.Head{Craft: n}, data, 0)
		}
		for _, n := range far(api.FillChannel) {
			try(api.ErrRange, api.Head{Channel: n}, data, 0)
		}
		for _, n := range far(255) {
			try(api.ErrRange, api.Head{Master: n}, data, 0)
			try(api.ErrRange, api.Head{Own: n}, data, 0)
		}
		for _, n := range far(api.NoFirst) {
			try(api.ErrRange, api.Head{First: n}, data, 0)
		}
		for _, n := range far(4294967295) {
			try(api.ErrRange, api.Head{}, data, n)
		}
	}
	for _, data := range [][]byte{nil, {}, make([]byte, 2037), make([]byte, 100000)} {
		try(api.ErrSize, api.Head{}, data, 0)
	}
}

func TestUnpackRefuses(t *testing.T) {
	try := func(want api.Errno, b []byte) {
		t.Helper()
		if h, data, status, e := frame.Unpack(b); e != want || h != (api.Head{}) || len(data) != 0 || status != 0 {
			t.Errorf("%d bytes: %+v %X %d %v, not %v", len(b), h, data, status, e, want)
		}
	}
	r := rand.New(rand.NewSource(63))
	try(api.ErrSize, nil)
	for n := 2; n < 13; n++ {
		try(api.ErrSize, summed(slowFrame(api.Head{}, nil, 0)[:n-2]))
	}
	try(api.ErrSize, slowFrame(api.Head{}, some(r, 2037), 0))
	try(api.ErrSize, make([]byte, 100000))
	whole := slowFrame(drawnHead(r), some(r, 5), r.Intn(1<<32))
	for bit := range 8 * len(whole) {
		b := bytes.Clone(whole)
		b[bit/8] ^= 0x80 >> (bit % 8)
		try(api.ErrSum, b)
		fixed := bit < 2 || bit == 15 || bit >= 32 && bit < 37
		b = summed(b[:len(b)-2])
		if fixed {
			try(api.ErrForm, b)
		} else if _, _, _, e := frame.Unpack(b); e != api.OK {
			t.Errorf("bit %d may be turned: %v", bit, e)
		}
	}
	// All five bits ahead of First, and the three others, in every way.
	for form := range 256 {
		text := fmt.Sprintf("%08b", form)
		b := bytesOf(text[:2] + "0000000011010" + text[2:3] + "0000010100000110" + text[3:] + "00000000111")
		b = summed(append(b, 1, 2, 0, 0, 0, 9))
		if text == "00100011" {
			h, data, status, e := frame.Unpack(b)
			if e != api.OK || h != (api.Head{Craft: 3, Channel: 2, Master: 5, Own: 6, First: 7}) || !bytes.Equal(data, []byte{1, 2}) || status != 9 {
				t.Errorf("%+v %X %d %v", h, data, status, e)
			}
		} else {
			try(api.ErrForm, b)
		}
	}
}

// list is one within a value: where it begins and ends, with its spare room.
type list struct{ from, to uintptr }

// look at a value: its lists, those within lists and their rooms too, and all that can be seen of it.
func look(v reflect.Value) (l []list, seen string) {
	switch v.Kind() {
	case reflect.Slice:
		all := v.Slice(0, v.Cap())
		if v.Cap() > 0 {
			from := all.Pointer()
			l = append(l, list{from, from + uintptr(v.Cap())*v.Type().Elem().Size()})
		}
		seen = fmt.Sprint("list of ", v.Len(), ":")
		if v.Type().Elem().Kind() == reflect.Uint8 {
			return l, seen + string(all.Bytes())
		}
		for i := range all.Len() {
			more, text := look(all.Index(i))
			l, seen = append(l, more...), seen+text
		}
		return l, seen
	case reflect.Struct:
		for i := range v.NumField() {
			more, text := look(v.Field(i))
			l, seen = append(l, more...), seen+text
		}
		return l, seen
	}
	return nil, fmt.Sprint(v, ";")
}

// lookAll: of several values.
func lookAll(values []any) (l []list, seen string) {
	for _, v := range values {
		more, text := look(reflect.ValueOf(v))
		l, seen = append(l, more...), seen+text
	}
	return l, seen
}

// apart: does a call leave alone what is handed in, and share no memory with it, nor between the lists that it answers?
func apart(t *testing.T, what string, in []any, call func() []any) {
	t.Helper()
	given, was := lookAll(in)
	told, _ := lookAll(call())
	if _, is := lookAll(in); is != was {
		t.Errorf("%s: what was handed in is changed", what)
	}
	for i, a := range told {
		for _, b := range slices.Concat(given, told[:i]) {
			if a.from < b.to && b.from < a.to {
				t.Errorf("%s: the answer shares memory with what was handed in, or with itself", what)
			}
		}
	}
}

// roomy: a list with spare room, which is full of nines.
func roomy(b []byte) []byte {
	return append(append(make([]byte, 0, len(b)+16), b...), bytes.Repeat([]byte{9}, 16)...)[:len(b)]
}

func TestPackApart(t *testing.T) {
	r := rand.New(rand.NewSource(64))
	for _, n := range []int{0, 1, 20} {
		data := roomy(some(r, n))
		apart(t, "Pack", []any{data}, func() []any {
			b, _ := frame.Pack(api.Head{First: 3}, data, 7)
			return []any{b}
		})
	}
	b := roomy(slowFrame(api.Head{First: 3}, some(r, 20), 7))
	apart(t, "Unpack", []any{b}, func() []any {
		_, data, _, _ := frame.Unpack(b)
		return []any{data}
	})
}
