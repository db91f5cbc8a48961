package deliver_test

import (
	"fmt"
	"math/rand"
	"reflect"
	"slices"
	"testing"

	"farhail/api"
	"farhail/deliver"
)

// list: where a list's memory lies, its spare room too.
type list struct{ from, to uintptr }

// look at a value: its lists, those within lists and their rooms too, and all that can be seen of it.
func look(v reflect.Value) (l []list, seen string) {
	switch v.Kind() {
	case reflect.Slice:
		all := v.Slice(0, v.Cap())
		if v.Cap() > 0 {
			from := all.Pointer()
			l = append(l, list{from, from + uintptr(v.Cap())*v.Type().Elem().Size()})
		}
		seen = fmt.Sprint("list of ", v.Len(), ":")
		for i := range all.Len() {
			more, text := look(all.Index(i))
			l, seen = append(l, more...), seen+text
		}
		return l, seen
	case reflect.Struct:
		for i := range v.NumField() {
			more, text := look(v.Field(i))
			l, seen = append(l, more...), seen+text
		}
		return l, seen
	}
	return nil, fmt.Sprint(v, ";")
}

// lookAll: of several values.
func lookAll(values []any) (l []list, seen string) {
	for _, v := range values {
		more, text := look(reflect.ValueOf(v))
		l, seen = append(l, more...), seen+text
	}
	return l, seen
}

// apart: does a call leave alone what is handed in, and share no memory with it, nor between the lists that it answers?
func apart(t *testing.T, what string, in []any, call func() []any) {
	t.Helper()
	given, was := lookAll(in)
	told, _ := lookAll(call())
	if _, is := lookAll(in); is != was {
		t.Errorf("%s: what was handed in is changed", what)
	}
	for i, a := range told {
		for _, b := range slices.Concat(given, told[:i]) {
			if a.from < b.to && b.from < a.to {
				t.Errorf("%s: the answer shares memory with what was handed in, or with itself", what)
			}
		}
	}
}

// roomy: a list with spare room, in which there is something, too.
func roomy[T any](l []T, spare ...T) []T {
	return append(slices.Clone(l), spare...)[:len(l)]
}

// roomyNote: all its lists have spare room.
func roomyNote(n api.Note) api.Note {
	n.Data, n.Gaps = roomy(n.Data, 9, 9, 9), roomy(n.Gaps, span{9, 9}, span{8, 8})
	return n
}

func TestNotesApart(t *testing.T) {
	r := rand.New(rand.NewSource(106))
	for _, kind := range allKinds() {
		n := roomyNote(drawnNote(r, 5, kind, 100))
		b := roomy(slowBytes(n), 9, 9, 9)
		apart(t, "Encode", []any{n}, func() []any {
			b, _ := deliver.Encode(n)
			return []any{b}
		})
		apart(t, "Decode", []any{b}, func() []any {
			n, _ := deliver.Decode(b)
			return []any{n}
		})
		apart(t, "Decode", []any{b}, func() []any {
			n, _ := deliver.Decode(b[:len(b)-1])
			return []any{n}
		})
	}
	b := roomy(some(r, 9), 1, 2, 3)
	apart(t, "Sum", []any{b}, func() []any { return []any{deliver.Sum(b)} })
}

func TestGiversApart(t *testing.T) {
	r := rand.New(rand.NewSource(107))
	file := roomy(some(r, 30), 9, 9)
	apart(t, "Offer", []any{file}, func() []any {
		g, _ := deliver.Offer(1, "log", file, 1, 1, 1, 1)
		return []any{g}
	})
	for range 1000 {
		g := drawnGiver(r)
		g.File, g.Again = roomy(g.File, 9, 9), roomy(g.Again, span{7, 7}, span{6, 6})
		n := roomyNote(drawnFor(r, g.ID, len(g.File)))
		apart(t, "Give", []any{g}, func() []any {
			g, l, _ := deliver.Give(g)
			return []any{g, l}
		})
		apart(t, "Reply", []any{g, n}, func() []any {
			g, l, _ := deliver.Reply(g, n)
			return []any{g, l}
		})
	}
}

func TestTakersApart(t *testing.T) {
	r := rand.New(rand.NewSource(108))
	for range 1000 {
		k := drawnTaker(r)
		k.File, k.Have = roomy(k.File, 9, 9), roomy(k.Have, span{7, 7}, span{6, 6})
		n := roomyNote(drawnFor(r, k.ID, 12))
		apart(t, "Take", []any{k, n}, func() []any {
			k, l, _ := deliver.Take(k, n)
			return []any{k, l}
		})
		apart(t, "Wait", []any{k}, func() []any {
			k, l, _ := deliver.Wait(k)
			return []any{k, l}
		})
		apart(t, "Whole", []any{k}, func() []any {
			_, b, _ := deliver.Whole(k)
			return []any{b}
		})
	}
}
