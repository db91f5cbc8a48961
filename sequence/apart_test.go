package sequence_test

import (
	"fmt"
	"reflect"
	"slices"
	"testing"

	"farhail/api"
	"farhail/sequence"
)

// list: where a list's memory lies, its spare room too.
type list struct{ from, to uintptr }

// look at a value: its lists, those within lists and their rooms too, and all that can be seen of it.
func look(v reflect.Value) (l []list, seen string) {
	switch v.Kind() {
	case reflect.Slice:
		all := v.Slice(0, v.Cap())
		if v.Cap() > 0 {
			from := all.Pointer()
			l = append(l, list{from, from + uintptr(v.Cap())*v.Type().Elem().Size()})
		}
		seen = fmt.Sprint("list of ", v.Len(), ":")
		for i := range all.Len() {
			more, text := look(all.Index(i))
			l, seen = append(l, more...), seen+text
		}
		return l, seen
	case reflect.Struct:
		for i := range v.NumField() {
			more, text := look(v.Field(i))
			l, seen = append(l, more...), seen+text
		}
		return l, seen
	}
	return nil, fmt.Sprint(v, ";")
}

// lookAll: of several values.
func lookAll(values []any) (l []list, seen string) {
	for _, v := range values {
		more, text := look(reflect.ValueOf(v))
		l, seen = append(l, more...), seen+text
	}
	return l, seen
}

// apart: does a call leave alone what is handed in, and share no memory with it, nor between the lists that it answers?
func apart(t *testing.T, what string, in []any, call func() []any) {
	t.Helper()
	given, was := lookAll(in)
	told, _ := lookAll(call())
	if _, is := lookAll(in); is != was {
		t.Errorf("%s: what was handed in is changed", what)
	}
	for i, a := range told {
		for _, b := range slices.Concat(given, told[:i]) {
			if a.from < b.to && b.from < a.to {
				t.Errorf("%s: the answer shares memory with what was handed in, or with itself", what)
			}
		}
	}
}

// roomy: a list with spare room, in which there is something, too.
func roomy[T any](l []T, spare ...T) []T {
	return append(slices.Clone(l), spare...)[:len(l)]
}

// roomyCrew: all its lists have spare room.
func roomyCrew(c api.Crew) api.Crew {
	for i, t := range c.Tasks {
		for k, p := range t.Places {
			t.Places[k].Loops = roomy(p.Loops, 7, 7, 7)
		}
		c.Tasks[i].Places = roomy(t.Places, api.Place{Seq: 7, Loops: []int{7}}, api.Place{Seq: 8}, api.Place{Seq: 9})
	}
	c.Tasks = roomy(c.Tasks, api.Task{Age: 7}, api.Task{Age: 8})
	return c
}

// TestApart: nothing that is handed in is changed, and no answer shares memory.
func TestApart(t *testing.T) {
	d := newDrawer(116)
	for range 1500 {
		l, text, b := d.loads(6)
		c, names, values := roomyCrew(d.drawnCrew(b)), roomy(d.names, "x", "y"), roomy([]int{d.Intn(3), 1, 2}, 9, 9)
		apart(t, "Load", []any{names}, func() []any {
			b, f := sequence.Load(text, names)
			return []any{b, f}
		})
		for _, name := range []string{l[d.Intn(len(l))].name, l[d.Intn(len(l))].name, "nobody"} {
			apart(t, "Start", []any{names, c}, func() []any {
				c, gone, _ := sequence.Start(text, names, c, name)
				return []any{c, gone}
			})
		}
		apart(t, "Tick", []any{names, c, values}, func() []any {
			return []any{sequence.Tick(text, names, c, values)}
		})
	}
}

// TestAgain: the same answer for the same question.
func TestAgain(t *testing.T) {
	d := newDrawer(117)
	for range 300 {
		_, text, b := d.loads(6)
		c, values := d.drawnCrew(b), []int{d.Intn(3), 1, 2}
		one, other := sequence.Tick(text, d.names, c, values), sequence.Tick(text, d.names, c, values)
		if !reflect.DeepEqual(one, other) {
			t.Fatalf("%q: %v %v", text, one, other)
		}
	}
}
