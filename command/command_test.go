package command_test

import (
	"bytes"
	"encoding/hex"
	"fmt"
	"math"
	"math/rand"
	"reflect"
	"slices"
	"strconv"
	"strings"
	"testing"

	"farhail/api"
	"farhail/command"
	"farhail/frame"
)

// some bytes that look drawn.
func some(r *rand.Rand, n int) []byte {
	b := make([]byte, n)
	for i := range b {
		b[i] = byte(r.Intn(256))
	}
	return b
}

// bytesOf a text of noughts and ones.
func bytesOf(text string) []byte {
	var out []byte
	for ; text != ""; text = text[8:] {
		n, err := strconv.ParseUint(text[:8], 2, 8)
		if err != nil {
			panic(err)
		}
		out = append(out, byte(n))
	}
	return out
}

// hexed: bytes of a text as the chapters write them.
func hexed(text string) []byte {
	b, err := hex.DecodeString(strings.ReplaceAll(text, " ", ""))
	if err != nil {
		panic(err)
	}
	return b
}

// summed: bytes, and their sum behind them.
func summed(b []byte) []byte {
	n := frame.Sum(b)
	return append(bytes.Clone(b), byte(n/256), byte(n%256))
}

// digit: 1, if it is so.
func digit(so bool) string {
	if so {
		return "1"
	}
	return "0"
}

// slowOrder of an order that may be: its head written as a text of noughts and ones.
func slowOrder(o api.Order) []byte {
	head := "00" + digit(o.Bypass) + digit(o.Control) + "00" + fmt.Sprintf("%010b", o.Craft)
	head += "000000" + fmt.Sprintf("%010b%08b", len(o.Data)+6, o.Seq)
	return summed(append(bytesOf(head), o.Data...))
}

// far: numbers outside least to most.
func far(least, most int) []int { return []int{least - 1, most + 1, math.MinInt, math.MaxInt} }

func TestOrderExamples(t *testing.T) {
	b, e := command.Encode(api.Order{Craft: 1, Seq: 7, Data: []byte{0xAA}})
	if want := summed(hexed("00 01 00 07 07 AA")); e != api.OK || !bytes.Equal(b, want) {
		t.Errorf("%X %v, not %X", b, e, want)
	}
	// The first frame that goes up in the example of the whole.
	whole := hexed("00 05 00 1C 00 03 00 00 00 00 00 00 96 03 DF 0C AA C0 CD 0A 9F 53 E4 41 0D E0 86 91 37")
	o, e := command.Decode(whole)
	if e != api.OK || !reflect.DeepEqual(o, api.Order{Craft: 5, Data: whole[5:27]}) {
		t.Errorf("%+v %v", o, e)
	}
	if b, e := command.Encode(o); e != api.OK || !bytes.Equal(b, whole) {
		t.Errorf("%X %v", b, e)
	}
}

// thereAndBack: is an order encoded as the chapter has it, and decoded to what it was?
func thereAndBack(t *testing.T, o api.Order) {
	t.Helper()
	b, e := command.Encode(o)
	if e != api.OK || !bytes.Equal(b, slowOrder(o)) {
		t.Fatalf("Encode %+v: %X %v", o, b, e)
	}
	if got, e := command.Decode(b); e != api.OK || !reflect.DeepEqual(got, o) {
		t.Fatalf("Decode %X: %+v %v", b, got, e)
	}
}

func TestEveryOrder(t *testing.T) {
	r := rand.New(rand.NewSource(71))
	for n := range api.MaxCraft + 1 {
		thereAndBack(t, api.Order{Craft: n, Data: some(r, 3)})
	}
	for n := range 256 {
		thereAndBack(t, api.Order{Seq: n, Data: some(r, 3)})
	}
	for n := range api.MaxOrder {
		thereAndBack(t, drawnOrder(r, n+1))
	}
	for range 1000 {
		thereAndBack(t, drawnOrder(r, 1+r.Intn(20)))
	}
}

// drawnOrder: one that may be, with so many bytes of data.
func drawnOrder(r *rand.Rand, n int) api.Order {
	kind := r.Intn(3)
	return api.Order{Craft: r.Intn(1024), Bypass: kind > 0, Control: kind > 1, Seq: r.Intn(256), Data: some(r, n)}
}

// wrongOrders, by what is wrong with them first.
func wrongOrders() map[api.Errno][]api.Order {
	l := map[api.Errno][]api.Order{}
	for _, data := range [][]byte{nil, {}, {1}, make([]byte, api.MaxOrder), make([]byte, api.MaxOrder+1), make([]byte, 100000)} {
		good := len(data) > 0 && len(data) <= api.MaxOrder
		if !good {
			l[api.ErrSize] = append(l[api.ErrSize], api.Order{Data: data}, api.Order{Bypass: true, Data: data}, api.Order{Bypass: true, Control: true, Data: data})
		}
		l[api.ErrKind] = append(l[api.ErrKind], api.Order{Control: true, Data: data})
		for _, kind := range []api.Order{{}, {Control: true}} {
			for _, n := range far(0, api.MaxCraft) {
				l[api.ErrRange] = append(l[api.ErrRange], api.Order{Craft: n, Control: kind.Control, Data: data})
			}
			for _, n := range far(0, 255) {
				l[api.ErrRange] = append(l[api.ErrRange], api.Order{Seq: n, Control: kind.Control, Data: data})
			}
		}
	}
	return l
}

func TestEncodeRefuses(t *testing.T) {
	for want, l := range wrongOrders() {
		for _, o := range l {
			if b, e := command.Encode(o); e != want || len(b) != 0 {
				t.Errorf("%+v: %X %v, not %v", o, b, e, want)
			}
		}
	}
}

// refused: does Decode refuse these bytes so?
func refused(t *testing.T, want api.Errno, b []byte) {
	t.Helper()
	if o, e := command.Decode(b); e != want || !reflect.DeepEqual(o, api.Order{}) {
		t.Errorf("%d bytes %X: %+v %v, not %v", len(b), b, o, e, want)
	}
}

func TestDecodeSizes(t *testing.T) {
	// Fewer than 8 or more than 1024 bytes, though the sum holds and the ten bits tell what they can of it.
	for n := range 8 {
		b := []byte{0, 1, 0, byte(n - 1), 7, 1}
		refused(t, api.ErrSize, b[:min(n, 6)])
		if n >= 2 {
			refused(t, api.ErrSize, summed(b[:n-2]))
		}
	}
	for _, n := range []int{1025, 1026, 1032, 2048, 100000} {
		b := append([]byte{0, 1, byte((n - 1) >> 8 & 3), byte(n - 1), 7}, make([]byte, n-7)...)
		refused(t, api.ErrSize, summed(b))
	}
	// Of each size one tells just itself.
	for told := range 1024 {
		for _, n := range []int{8, 9, 300, 1023, 1024} {
			b := append([]byte{0, 1, byte(told / 256), byte(told), 7}, make([]byte, n-7)...)
			if told != n-1 {
				refused(t, api.ErrSize, summed(b))
				refused(t, api.ErrSize, append(b, 0, 0))
			} else if _, e := command.Decode(summed(b)); e != api.OK {
				t.Errorf("%d bytes: %v", n, e)
			}
		}
	}
}

func TestDecodeRefuses(t *testing.T) {
	whole := slowOrder(api.Order{Craft: 0x2A5, Bypass: true, Seq: 0x3C, Data: []byte{1, 0xFE, 9}})
	always := []int{0, 1, 4, 5, 16, 17, 18, 19, 20, 21}
	for bit := range 8 * len(whole) {
		b := bytes.Clone(whole)
		b[bit/8] ^= 0x80 >> (bit % 8)
		if bit >= 22 && bit < 32 {
			refused(t, api.ErrSize, b)
			refused(t, api.ErrSize, summed(b[:len(b)-2]))
			continue
		}
		refused(t, api.ErrSum, b)
		b = summed(b[:len(b)-2])
		if slices.Contains(always, bit) {
			refused(t, api.ErrForm, b)
		} else if o, e := command.Decode(b); e != api.OK || !bytes.Equal(slowOrder(o), b) {
			t.Errorf("bit %d may be turned: %+v %v", bit, o, e)
		}
	}
	// The six bits ahead of Craft and those ahead of the length, in every way.
	for form := range 1 << 12 {
		text := fmt.Sprintf("%012b", form)
		b := summed(bytesOf(text[:6] + "0000000011" + text[6:] + "0000000111" + "00000101" + "00001001"))
		o, e := command.Decode(b)
		switch text {
		case "000000000000", "001000000000", "001100000000":
			want := api.Order{Craft: 3, Bypass: text[2] == '1', Control: text[3] == '1', Seq: 5, Data: []byte{9}}
			if e != api.OK || !reflect.DeepEqual(o, want) {
				t.Errorf("%s: %+v %v", text, o, e)
			}
		default:
			refused(t, api.ErrForm, b)
		}
	}
}

// list is one within a value: where it begins and ends, with its spare room.
type list struct{ from, to uintptr }

// look at a value: its lists, those within lists and their rooms too, and all that can be seen of it.
func look(v reflect.Value) (l []list, seen string) {
	switch v.Kind() {
	case reflect.Slice:
		all := v.Slice(0, v.Cap())
		if v.Cap() > 0 {
			from := all.Pointer()
			l = append(l, list{from, from + uintptr(v.Cap())*v.Type().Elem().Size()})
		}
		seen = fmt.Sprint("list of ", v.Len(), ":")
		if v.Type().Elem().Kind() == reflect.Uint8 {
			return l, seen + string(all.Bytes())
		}
		for i := range all.Len() {
			more, text := look(all.Index(i))
			l, seen = append(l, more...), seen+text
		}
		return l, seen
	case reflect.Struct:
		for i := range v.NumField() {
			more, text := look(v.Field(i))
			l, seen = append(l, more...), seen+text
		}
		return l, seen
	}
	return nil, fmt.Sprint(v, ";")
}

// lookAll: of several values.
func lookAll(values []any) (l []list, seen string) {
	for _, v := range values {
		more, text := look(reflect.ValueOf(v))
		l, seen = append(l, more...), seen+text
	}
	return l, seen
}

// apart: does a call leave alone what is handed in, and share no memory with it, nor between the lists that it answers?
func apart(t *testing.T, what string, in []any, call func() []any) {
	t.Helper()
	given, was := lookAll(in)
	told, _ := lookAll(call())
	if _, is := lookAll(in); is != was {
		t.Errorf("%s: what was handed in is changed", what)
	}
	for i, a := range told {
		for _, b := range slices.Concat(given, told[:i]) {
			if a.from < b.to && b.from < a.to {
				t.Errorf("%s: the answer shares memory with what was handed in, or with itself", what)
			}
		}
	}
}

// roomy: a list with spare room, which is full of nines.
func roomy(b []byte) []byte {
	return append(append(make([]byte, 0, len(b)+16), b...), bytes.Repeat([]byte{9}, 16)...)[:len(b)]
}

func TestOrdersApart(t *testing.T) {
	r := rand.New(rand.NewSource(72))
	for _, n := range []int{0, 1, 20} {
		o := api.Order{Data: roomy(some(r, n))}
		apart(t, "Encode", []any{o}, func() []any {
			b, _ := command.Encode(o)
			return []any{b}
		})
	}
	b := roomy(slowOrder(drawnOrder(r, 20)))
	apart(t, "Decode", []any{b}, func() []any {
		o, _ := command.Decode(b)
		return []any{o}
	})
}
