package keys_test

import (
	"fmt"
	"math/rand"
	"reflect"
	"slices"
	"testing"

	"farhail/api"
	"farhail/keys"
)

// list: where a list's memory lies, its spare room too.
type list struct{ from, to uintptr }

// look at a value: its lists, those within lists and their rooms too, and all that can be seen of it.
func look(v reflect.Value) (l []list, seen string) {
	switch v.Kind() {
	case reflect.Slice:
		all := v.Slice(0, v.Cap())
		if v.Cap() > 0 {
			from := all.Pointer()
			l = append(l, list{from, from + uintptr(v.Cap())*v.Type().Elem().Size()})
		}
		seen = fmt.Sprint("list of ", v.Len(), ":")
		for i := range all.Len() {
			more, text := look(all.Index(i))
			l, seen = append(l, more...), seen+text
		}
		return l, seen
	case reflect.Struct:
		for i := range v.NumField() {
			more, text := look(v.Field(i))
			l, seen = append(l, more...), seen+text
		}
		return l, seen
	}
	return nil, fmt.Sprint(v, ";")
}

// lookAll: of several values.
func lookAll(values []any) (l []list, seen string) {
	for _, v := range values {
		more, text := look(reflect.ValueOf(v))
		l, seen = append(l, more...), seen+text
	}
	return l, seen
}

// apart: does a call leave alone what is handed in, and share no memory with it, nor between the lists that it answers?
func apart(t *testing.T, what string, in []any, call func() []any) {
	t.Helper()
	given, was := lookAll(in)
	told, _ := lookAll(call())
	if _, is := lookAll(in); is != was {
		t.Errorf("%s: what was handed in is changed", what)
	}
	for i, a := range told {
		for _, b := range slices.Concat(given, told[:i]) {
			if a.from < b.to && b.from < a.to {
				t.Errorf("%s: the answer shares memory with what was handed in, or with itself", what)
			}
		}
	}
}

// roomy: a list with spare room, in which there is something, too.
func roomy[T any](l []T, spare ...T) []T {
	return append(slices.Clone(l), spare...)[:len(l)]
}

// roomyRing: all its lists have spare room.
func roomyRing(r *rand.Rand, ids ...int) api.Ring {
	ring := ringOf(r, ids...)
	for i := range ring.Keys {
		ring.Keys[i].Words = roomy(ring.Keys[i].Words, 9, 9, 9)
	}
	ring.Keys = roomy(ring.Keys, fresh(r, 50), fresh(r, 51))
	return ring
}

func TestApart(t *testing.T) {
	r := rand.New(rand.NewSource(89))
	words, body := roomy(drawnWords(r), 9, 9), roomy(some(r, 100), 9, 9, 9)
	apart(t, "Block", []any{words}, func() []any {
		a, _ := keys.Block(words, 5, 0)
		b, _ := keys.Block(words, 5, 0)
		return []any{a, b}
	})
	apart(t, "Tag", []any{words, body}, func() []any {
		b, _ := keys.Tag(words, 5, body)
		return []any{b}
	})
	k := api.Key{ID: 7, Words: words, Top: -1}
	apart(t, "Seal", []any{k, body}, func() []any {
		b, _ := keys.Seal(k, 5, body)
		return []any{b}
	})
}

func TestRingsApart(t *testing.T) {
	r := rand.New(rand.NewSource(90))
	ring := roomyRing(r, 1, 2, 3)
	k := fresh(r, 7)
	k.Words = roomy(k.Words, 9, 9)
	sealed := slowSeal(ring.Keys[1], 5, some(r, 100))
	for _, b := range [][]byte{nil, roomy(sealed, 9, 9), slowSeal(k, 5, nil)} {
		apart(t, "Open", []any{ring, b}, func() []any {
			after, body, _, _ := keys.Open(ring, b)
			return []any{after, body}
		})
	}
	for _, k := range []api.Key{k, {}, ring.Keys[0]} {
		apart(t, "Add", []any{ring, k}, func() []any {
			after, _ := keys.Add(ring, k)
			return []any{after}
		})
	}
	for _, id := range []int{1, 2, 3, 4} {
		apart(t, "Drop", []any{ring}, func() []any {
			after, _ := keys.Drop(ring, id)
			return []any{after}
		})
	}
}
