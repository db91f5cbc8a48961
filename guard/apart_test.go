package guard_test

import (
	"fmt"
	"math/rand"
	"reflect"
	"slices"
	"sync"
	"testing"

	"farhail/api"
	"farhail/guard"
)

// list: where a list's memory lies, its spare room too.
type list struct{ from, to uintptr }

// look at a value: its lists, those within lists and their rooms too, and all that can be seen of it.
func look(v reflect.Value) (l []list, seen string) {
	switch v.Kind() {
	case reflect.Slice:
		all := v.Slice(0, v.Cap())
		if v.Cap() > 0 {
			from := all.Pointer()
			l = append(l, list{from, from + uintptr(v.Cap())*v.Type().Elem().Size()})
		}
		seen = fmt.Sprint("list of ", v.Len(), ":")
		for i := range all.Len() {
			more, text := look(all.Index(i))
			l, seen = append(l, more...), seen+text
		}
		return l, seen
	case reflect.Struct:
		for i := range v.NumField() {
			more, text := look(v.Field(i))
			l, seen = append(l, more...), seen+text
		}
		return l, seen
	}
	return nil, fmt.Sprint(v, ";")
}

// lookAll: of several values.
func lookAll(values []any) (l []list, seen string) {
	for _, v := range values {
		more, text := look(reflect.ValueOf(v))
		l, seen = append(l, more...), seen+text
	}
	return l, seen
}

// apart: does a call leave alone what is handed in, and share no memory with it, nor between the lists that it answers?
func apart(t *testing.T, what string, in []any, call func() []any) {
	t.Helper()
	given, was := lookAll(in)
	told, _ := lookAll(call())
	if _, is := lookAll(in); is != was {
		t.Errorf("%s: what was handed in is changed", what)
	}
	for i, a := range told {
		for _, b := range slices.Concat(given, told[:i]) {
			if a.from < b.to && b.from < a.to {
				t.Errorf("%s: the answer shares memory with what was handed in, or with itself", what)
			}
		}
	}
}

// roomy: a list with spare room, in which there is something, too.
func roomy[T any](l []T, spare ...T) []T {
	return append(slices.Clone(l), spare...)[:len(l)]
}

// roomyVigil: all its lists have spare room.
func roomyVigil(v api.Vigil) api.Vigil {
	v.Bad, v.Tripped, v.Trips = roomy(v.Bad, 7, 7, 7), roomy(v.Tripped, true, true), roomy(v.Trips, 7, 7, 7)
	return v
}

// TestApart: nothing that is handed in is changed, and no answer shares memory.
func TestApart(t *testing.T) {
	r := rand.New(rand.NewSource(124))
	for range 300 {
		g := drawnGuard(r, r.Intn(6))
		g.Monitors = roomy(g.Monitors, calm(), calm())
		apart(t, "Check", []any{g}, func() []any { return []any{guard.Check(g)} })
		apart(t, "Begin", []any{g}, func() []any {
			v, _ := guard.Begin(g)
			w, _ := guard.Begin(g)
			return []any{v, w}
		})
		v, _ := guard.Begin(g)
		for range 20 {
			was, values := roomyVigil(v), roomy([]int{r.Intn(7) - 3, r.Intn(7) - 3, r.Intn(7) - 3}, 9, 9)
			heard, leave := r.Intn(2) == 0, r.Intn(2) == 0
			apart(t, "Step", []any{g, was, values}, func() []any {
				var l []string
				v, l, _ = guard.Step(g, was, values, heard, leave)
				w, m, _ := guard.Step(g, was, values, heard, leave)
				return []any{v, l, w, m}
			})
		}
	}
}

// TestAtOnce: many may ask at the same time, about one guard and one vigil.
func TestAtOnce(t *testing.T) {
	g := drawnGuard(rand.New(rand.NewSource(125)), 8)
	start, _ := guard.Begin(g)
	var all sync.WaitGroup
	told := make([]string, 8)
	for i := range told {
		all.Go(func() {
			v := start
			for tick := range 200 {
				var l []string
				v, l, _ = guard.Step(g, v, []int{tick % 5, tick % 7, tick % 3}, tick%4 == 0, tick%8 == 0)
				told[i] += plainly(v, l)
			}
		})
	}
	all.Wait()
	for _, s := range told {
		if s != told[0] {
			t.Fatal("not all were told the same")
		}
	}
}
