package passes_test

import (
	"fmt"
	"math/rand"
	"reflect"
	"slices"
	"sync"
	"testing"

	"farhail/api"
	"farhail/passes"
)

// roomy: a list with spare room, in which there is something, too.
func roomy[T any](l []T) []T { return append(slices.Clone(l), make([]T, 5)...)[:len(l)] }

// seen: all that can be seen of a list, its spare room too.
func seen[T any](l []T) string { return fmt.Sprintln(len(l), l[:cap(l)]) }

// where a list's memory lies, its spare room too.
func where[T any](l []T) [2]uintptr {
	v := reflect.ValueOf(l)
	return [2]uintptr{v.Pointer(), v.Pointer() + uintptr(cap(l))*v.Type().Elem().Size()}
}

// apart: do no two stretches of memory meet?
func apart(l ...[2]uintptr) bool {
	for i, a := range l {
		for _, b := range l[:i] {
			if max(a[0], b[0]) < min(a[1], b[1]) {
				return false
			}
		}
	}
	return true
}

// drawnPasses: so many.
func drawnPasses(r *rand.Rand, n int) (l []api.Pass) {
	for range n {
		l = append(l, drawnPass(r, 100, 10, 3, 9))
	}
	return l
}

// TestApart: nothing that is handed in is changed, and no answer shares memory.
func TestApart(t *testing.T) {
	r := rand.New(rand.NewSource(135))
	for range 300 {
		l := roomy(drawnPasses(r, r.Intn(20)))
		w, jobs := drawnShare(r, 30, r.Intn(6), 5, r.Intn(8), 20)
		w, jobs = roomy(w), roomy(jobs)
		was := seen(l) + seen(w) + seen(jobs)
		a, _, _ := passes.Choose(l, 2)
		b, _, _ := passes.Choose(l, 2)
		c, _ := passes.Share(w, jobs)
		d, _ := passes.Share(w, jobs)
		passes.Fits(w, jobs)
		if seen(l)+seen(w)+seen(jobs) != was {
			t.Fatal("what was handed in is changed")
		}
		if !apart(where(l), where(w), where(jobs), where(a), where(b), where(c), where(d)) {
			t.Fatal("answers share memory")
		}
	}
}

// told: all that is answered about passes, windows and jobs.
func told(l []api.Pass, w []api.Window, jobs []api.Job) string {
	a, n, e := passes.Choose(l, 3)
	b, f := passes.Share(w, jobs)
	c, g := passes.Fits(w, jobs)
	return fmt.Sprint(a, n, e, b, f, c, g)
}

// TestAgain: the same answer for the same question, whatever was asked between, or handed back.
func TestAgain(t *testing.T) {
	r := rand.New(rand.NewSource(136))
	for range 200 {
		l := drawnPasses(r, 15)
		w, jobs := drawnShare(r, 30, 4, 5, 8, 20)
		was := told(l, w, jobs)
		a, _, _ := passes.Choose(l, 3)
		b, _ := passes.Share(w, jobs)
		clear(a)
		clear(b)
		told(l[1:], w[1:], jobs[1:])
		if is := told(l, w, jobs); is != was {
			t.Fatal(l, w, jobs, was, is)
		}
	}
}

// TestAtOnce: many may ask at the same time, about the same passes, windows and jobs.
func TestAtOnce(t *testing.T) {
	r := rand.New(rand.NewSource(137))
	l := drawnPasses(r, 60)
	w, jobs := drawnShare(r, 300, 20, 5, 40, 50)
	want := told(l, w, jobs)
	var all sync.WaitGroup
	for range 8 {
		all.Go(func() {
			for range 50 {
				if is := told(l, w, jobs); is != want {
					t.Error(is, want)
					return
				}
			}
		})
	}
	all.Wait()
}
