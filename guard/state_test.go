package guard_test

import (
	"math"
	"reflect"
	"slices"
	"testing"

	"farhail/api"
	"farhail/guard"
)

// watched: a guard with a bit of everything.
func watched() api.Guard {
	return api.Guard{
		Monitors: []api.Monitor{{High: 9, For: 3, Tier: 1}, {Of: 1, High: 9, For: 1, Tier: 2}, {Of: 1, High: 9, For: api.MaxWait, Tier: 3}},
		Silence:  5, Most: api.MaxTrips, Window: 10,
	}
}

// stateWith: a vigil of watched that may be, with a change.
func stateWith(change func(v *api.Vigil)) api.Vigil {
	v := api.Vigil{Why: api.NoWhy, Bad: make([]int, 3), Tripped: make([]bool, 3)}
	change(&v)
	return v
}

// rightStates of watched.
func rightStates() (l []api.Vigil) {
	add := func(change func(v *api.Vigil)) { l = append(l, stateWith(change)) }
	for i, m := range watched().Monitors {
		for _, n := range []int{0, m.For - 1, m.For} {
			add(func(v *api.Vigil) { v.Bad[i] = n })
		}
		add(func(v *api.Vigil) { v.Bad[i], v.Tripped[i] = m.For, true })
	}
	for n := range 6 {
		add(func(v *api.Vigil) { v.Quiet = n })
	}
	for _, trips := range [][]int{nil, {}, {0}, {9}, {0, 0}, {9, 9}, {9, 0}, {5, 5, 4, 4, 0}, slices.Repeat([]int{9}, api.MaxTrips), make([]int, api.MaxTrips)} {
		add(func(v *api.Vigil) { v.Trips = trips })
	}
	for _, why := range []int{api.ByTrips, api.BySilent, 0, 1, 2} {
		add(func(v *api.Vigil) { v.Safe, v.Why = true, why })
	}
	return l
}

// wrongStates of watched, each by one thing.
func wrongStates() (l []api.Vigil) {
	add := func(change func(v *api.Vigil)) { l = append(l, stateWith(change)) }
	for _, n := range []int{0, 1, 2, 4, 100000} {
		add(func(v *api.Vigil) { v.Bad = make([]int, n) })
		add(func(v *api.Vigil) { v.Tripped = make([]bool, n) })
		add(func(v *api.Vigil) { v.Bad, v.Tripped = make([]int, n), make([]bool, n) })
	}
	for i, m := range watched().Monitors {
		for _, n := range far(0, m.For) {
			add(func(v *api.Vigil) { v.Bad[i] = n })
			add(func(v *api.Vigil) { v.Bad[i], v.Tripped[i] = n, true })
		}
		add(func(v *api.Vigil) { v.Tripped[i] = true })
		add(func(v *api.Vigil) { v.Bad[i], v.Tripped[i] = m.For-1, true })
	}
	for _, n := range far(0, 5) {
		add(func(v *api.Vigil) { v.Quiet = n })
	}
	for _, n := range far(0, 9) {
		add(func(v *api.Vigil) { v.Trips = []int{n} })
		add(func(v *api.Vigil) { v.Trips = []int{n, 0} })
		add(func(v *api.Vigil) { v.Trips = []int{9, n} })
	}
	for _, trips := range [][]int{{0, 1}, {8, 9}, {5, 4, 5}, {9, 0, 0, 1}, {0, 9}, make([]int, api.MaxTrips+1), make([]int, 100000)} {
		add(func(v *api.Vigil) { v.Trips = trips })
	}
	for _, why := range []int{0, 1, 2, 3, api.BySilent, api.ByTrips, -4, math.MinInt, math.MaxInt} {
		add(func(v *api.Vigil) { v.Why = why })
	}
	for _, why := range []int{api.NoWhy, 3, 4, -4, math.MinInt, math.MaxInt} {
		add(func(v *api.Vigil) { v.Safe, v.Why = true, why })
	}
	return l
}

// stuck: does a step tell that things do not stand so?
func stuck(t *testing.T, g api.Guard, v api.Vigil, values []int) {
	t.Helper()
	for i := range 4 {
		if v, l, e := guard.Step(g, v, values, i&1 > 0, i&2 > 0); e != api.ErrState || len(l) != 0 || !reflect.DeepEqual(v, api.Vigil{}) {
			t.Errorf("%s: %+v %v %v", short(g), v, l, e)
		}
	}
}

// goes: is a step taken?
func goes(t *testing.T, g api.Guard, v api.Vigil, values []int) {
	t.Helper()
	for i := range 4 {
		if _, _, e := guard.Step(g, v, values, i&1 > 0, i&2 > 0); e != api.OK {
			t.Errorf("%s: %+v: %v", short(g), v, e)
		}
	}
}

func TestStatesThatMayBe(t *testing.T) {
	for _, v := range rightStates() {
		goes(t, watched(), v, []int{5, 5})
		goes(t, watched(), v, []int{10, -1, 7})
	}
}

func TestStatesThatMayNotBe(t *testing.T) {
	for _, v := range wrongStates() {
		stuck(t, watched(), v, []int{5, 5})
		stuck(t, watched(), v, []int{10, -1, 7})
	}
	stuck(t, watched(), api.Vigil{}, []int{5, 5})
}

// TestNobodyWatches: without monitors the craft can be safe by trips or silence alone, as far as anybody can tell.
func TestNobodyWatches(t *testing.T) {
	g := guardOf()
	for _, v := range []api.Vigil{{Why: api.NoWhy}, {Safe: true, Why: api.ByTrips}, {Safe: true, Why: api.BySilent}, {Why: api.NoWhy, Bad: []int{}, Tripped: []bool{}, Trips: []int{}}} {
		goes(t, g, v, nil)
	}
	for _, v := range []api.Vigil{{}, {Safe: true}, {Safe: true, Why: api.NoWhy}, {Safe: true, Why: -4}, {Why: api.NoWhy, Quiet: 1}, {Why: api.NoWhy, Bad: []int{0}}, {Why: api.NoWhy, Tripped: []bool{false}}} {
		stuck(t, g, v, nil)
	}
}

func TestTooFewValues(t *testing.T) {
	for _, of := range []int{0, 1, 5, api.MaxNames - 1} {
		m := calm()
		g := guardOf(m, m)
		for i := range g.Monitors {
			g.Monitors[i].Of = of
			v, _ := guard.Begin(g)
			for n := range of + 1 {
				stuck(t, g, v, make([]int, n))
			}
			goes(t, g, v, make([]int, of+1))
			goes(t, g, v, make([]int, of+100))
			g.Monitors[i].Of = 0
		}
	}
}
