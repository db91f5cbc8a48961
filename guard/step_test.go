package guard_test

import (
	"fmt"
	"math"
	"math/rand"
	"reflect"
	"slices"
	"testing"

	"farhail/api"
	"farhail/guard"
)

// The slow way to do a step: a vigil is worked out from all that was ever seen, not from the one ahead of it.

// moment: what was seen in a tick.
type moment struct {
	values       []int
	heard, leave bool
}

// story: a guard, and what it saw, tick by tick; whether the craft is safe by that, and why.
type story struct {
	g     api.Guard
	seen  []moment
	safe  bool
	why   int
	trips []int // the ticks of the trips that are not forgotten
}

// badFor: for how many ticks, up to the last one, a monitor's value was outside.
func (s *story) badFor(m api.Monitor) int {
	n := 0
	for i := len(s.seen) - 1; i >= 0; i-- {
		if x := s.seen[i].values[m.Of]; x >= m.Low && x <= m.High {
			break
		}
		n++
	}
	return n
}

// quietFor: for how many ticks the ground was silent.
func (s *story) quietFor() int {
	n := 0
	for i := len(s.seen) - 1; i >= 0 && !s.seen[i].heard; i-- {
		n++
	}
	return n
}

// next: a tick; the vigil behind it, and the names.
func (s *story) next(x moment) (v api.Vigil, names []string) {
	s.seen = append(s.seen, x)
	now := len(s.seen)
	for len(s.trips) > 0 && now-s.trips[0] >= s.g.Window {
		s.trips = s.trips[1:]
	}
	fresh, wrong, was := map[int]bool{}, false, s.safe
	for i, m := range s.g.Monitors {
		n := s.badFor(m)
		v.Bad, v.Tripped = append(v.Bad, min(n, m.For)), append(v.Tripped, n >= m.For)
		wrong = wrong || n >= m.For
		if n == m.For {
			fresh[i] = true
			s.trips = append(s.trips, now)
			s.trips = s.trips[max(0, len(s.trips)-api.MaxTrips):]
		}
	}
	v.Quiet = min(s.quietFor(), s.g.Silence)
	if was {
		s.stay(x, wrong)
	} else {
		s.become(fresh, v.Quiet)
	}
	if s.safe && !was && s.g.Safe != "" {
		names = append(names, s.g.Safe)
	}
	for i, m := range s.g.Monitors {
		if fresh[i] && m.Then != "" && (m.Tier == 3 || !s.safe) {
			names = append(names, m.Then)
		}
	}
	for _, tick := range s.trips {
		v.Trips = append(v.Trips, now-tick)
	}
	v.Safe, v.Why = s.safe, s.why
	return v, names
}

// become safe, if there is a reason.
func (s *story) become(fresh map[int]bool, quiet int) {
	for i := len(s.g.Monitors) - 1; i >= 0; i-- {
		if fresh[i] && s.g.Monitors[i].Tier == 3 {
			s.safe, s.why = true, i
		}
	}
	if !s.safe && len(s.trips) >= s.g.Most {
		s.safe, s.why = true, api.ByTrips
	}
	if !s.safe && s.g.Silence != 0 && quiet >= s.g.Silence {
		s.safe, s.why = true, api.BySilent
	}
}

// stay safe, unless the ground lets it go.
func (s *story) stay(x moment, wrong bool) {
	if x.leave && x.heard && !wrong {
		s.safe, s.why, s.trips = false, api.NoWhy, nil
	}
}

// plainly: a text in which empty lists look alike.
func plainly(v api.Vigil, l []string) string { return fmt.Sprintf("%+v %q", v, l) }

// drawnGuard: one that may be.
func drawnGuard(r *rand.Rand, monitors int) api.Guard {
	one := func(l ...int) int { return l[r.Intn(len(l))] }
	name := func() string { return []string{"", "a", "b1", "c_2", "a"}[r.Intn(5)] }
	g := api.Guard{Silence: one(0, 0, 1, 2, 7, 30), Most: one(1, 2, 3, 5, 20, api.MaxTrips), Window: one(1, 2, 5, 10, 40, api.MaxTicks), Safe: name()}
	for range monitors {
		low := r.Intn(5) - 2
		g.Monitors = append(g.Monitors, api.Monitor{Of: r.Intn(3), Low: low, High: low + r.Intn(4), For: one(1, 1, 2, 3, 6), Tier: one(1, 1, 2, 2, 3), Then: name()})
	}
	return g
}

// TestStories: what a guard does is what comes of all that it saw.
func TestStories(t *testing.T) {
	r := rand.New(rand.NewSource(121))
	for range 1500 {
		g := drawnGuard(r, []int{0, 1, 2, 4, api.MaxMonitors}[r.Intn(5)])
		change, hear := 1+r.Intn(6), 1+r.Intn(6)
		s := story{g: g, why: api.NoWhy}
		v, e := guard.Begin(g)
		if e != api.OK {
			t.Fatal(short(g), e)
		}
		x := moment{values: make([]int, 3)}
		for tick := range 60 {
			if r.Intn(change) == 0 {
				x.values = []int{r.Intn(9) - 4, r.Intn(9) - 4, r.Intn(9) - 4}
			}
			x.heard, x.leave = r.Intn(hear) == 0, r.Intn(3) == 0
			var names []string
			v, names, e = guard.Step(g, v, x.values, x.heard, x.leave)
			want, wantNames := s.next(x)
			if got := plainly(v, names); e != api.OK || got != plainly(want, wantNames) {
				t.Fatalf("%s, tick %d, %v: %s %v, not %s", short(g), tick, x, got, e, plainly(want, wantNames))
			}
		}
	}
}

// TestManyTrips: of more than MaxTrips the eldest are forgotten.
func TestManyTrips(t *testing.T) {
	var l []api.Monitor
	for range api.MaxMonitors {
		l = append(l, api.Monitor{For: 1, Tier: 1})
	}
	g := api.Guard{Monitors: l, Most: api.MaxTrips, Window: 50}
	s := story{g: g, why: api.NoWhy}
	v, e := guard.Begin(g)
	most := 0
	for tick := range 20 {
		x := moment{values: []int{tick % 2}, heard: true}
		var names []string
		v, names, e = guard.Step(g, v, x.values, true, false)
		want, wantNames := s.next(x)
		if got := plainly(v, names); e != api.OK || got != plainly(want, wantNames) {
			t.Fatalf("tick %d: %s %v, not %s", tick, got, e, plainly(want, wantNames))
		}
		most = max(most, len(v.Trips))
	}
	if most != api.MaxTrips || !v.Safe || v.Why != api.ByTrips || v.Trips[0] != 6 {
		t.Error(most, v)
	}
}

// act: a step of a guard from a vigil; does it tell that?
func act(t *testing.T, g api.Guard, v api.Vigil, x moment, want api.Vigil, names ...string) {
	t.Helper()
	got, l, e := guard.Step(g, v, x.values, x.heard, x.leave)
	if e != api.OK || plainly(got, l) != plainly(want, names) {
		t.Errorf("%+v: %s %v, not %s", x, plainly(got, l), e, plainly(want, names))
	}
}

// TestExample: the chapter's.
func TestExample(t *testing.T) {
	g := guardOf(api.Monitor{High: 9, For: 2, Tier: 3, Then: "act"})
	g.Safe = "shut"
	start, _ := guard.Begin(g)
	once := api.Vigil{Why: api.NoWhy, Bad: []int{1}, Tripped: []bool{false}}
	safe := api.Vigil{Safe: true, Bad: []int{2}, Tripped: []bool{true}, Trips: []int{0}}
	later := safe
	later.Trips = []int{1}
	act(t, g, start, moment{values: []int{5}}, start)
	act(t, g, start, moment{values: []int{10}}, once)
	act(t, g, once, moment{values: []int{10}}, safe, "shut", "act")
	for i := range 4 {
		act(t, g, safe, moment{[]int{10}, i&1 > 0, i&2 > 0}, later)
	}
	act(t, g, later, moment{[]int{5}, true, true}, start)
	calmer := api.Vigil{Safe: true, Bad: []int{0}, Tripped: []bool{false}, Trips: []int{2}}
	for _, x := range []moment{{[]int{5}, false, true}, {[]int{5}, true, false}, {[]int{5}, false, false}} {
		act(t, g, later, x, calmer)
	}
}

// TestWholeExample: the guard of the example of the whole: the third time that temp is too high the craft is Safe.
func TestWholeExample(t *testing.T) {
	g := api.Guard{Monitors: []api.Monitor{{Low: -50, High: 50, For: 3, Tier: 3}}, Most: 100, Window: 1000, Safe: "shut"}
	v, _ := guard.Begin(g)
	for tick, temp := range []int{5, 5, 60, 60, 60, 60} {
		var l []string
		v, l, _ = guard.Step(g, v, []int{temp, 0}, tick == 0, false)
		if v.Safe != (tick >= 4) || v.Safe && v.Why != 0 || !slices.Equal(l, map[int][]string{4: {"shut"}}[tick]) {
			t.Error(tick, v, l)
		}
	}
}

// TestBounds: values are outside just if they are below Low or above High, however far.
func TestBounds(t *testing.T) {
	for _, b := range [][2]int{{0, 9}, {-5, -5}, {math.MinInt32, math.MaxInt32}, {-3, 0}, {math.MaxInt32, math.MaxInt32}, {math.MinInt32, math.MinInt32}} {
		g := guardOf(api.Monitor{Of: 1, Low: b[0], High: b[1], For: 1, Tier: 2})
		v, _ := guard.Begin(g)
		for _, n := range []int{b[0], b[1], b[0] - 1, b[1] + 1, math.MinInt, math.MaxInt} {
			got, _, e := guard.Step(g, v, []int{0, n}, true, false)
			if e != api.OK || got.Tripped[0] != (n < b[0] || n > b[1]) {
				t.Error(b, n, got, e)
			}
		}
	}
}

// TestSilence: the craft is safe in just the tick in which it was silent for so long; without a Silence never.
func TestSilence(t *testing.T) {
	for _, silence := range []int{1, 2, 3, 50, api.MaxSilence} {
		g := guardOf()
		g.Silence, g.Safe = silence, "hush"
		v := api.Vigil{Why: api.NoWhy, Quiet: max(0, silence-2)}
		if silence > 1 {
			next := api.Vigil{Why: api.NoWhy, Quiet: silence - 1}
			act(t, g, v, moment{}, next)
			v = next
		}
		safe := api.Vigil{Safe: true, Why: api.BySilent, Quiet: silence}
		act(t, g, v, moment{heard: true}, api.Vigil{Why: api.NoWhy})
		act(t, g, v, moment{}, safe, "hush")
		act(t, g, v, moment{leave: true}, safe, "hush")
		act(t, g, safe, moment{leave: true}, safe)
		act(t, g, safe, moment{heard: true}, api.Vigil{Safe: true, Why: api.BySilent})
		act(t, g, safe, moment{heard: true, leave: true}, api.Vigil{Why: api.NoWhy})
	}
	g := guardOf()
	v := api.Vigil{Why: api.NoWhy}
	for range 3 {
		act(t, g, v, moment{}, v)
	}
}

// TestReasons: which one counts, where there are several.
func TestReasons(t *testing.T) {
	for i := range 16 {
		silent, many, second, third := i&1 > 0, i&2 > 0, i&4 > 0, i&8 > 0
		g := api.Guard{Monitors: []api.Monitor{{For: 1, Tier: 2, Then: "a"}, {For: 1, Tier: 2, Then: "b"}, {For: 1, Tier: 1, Then: "c"}}, Most: 4, Window: 5, Safe: "s"}
		want := api.Vigil{Why: api.NoWhy, Bad: []int{1, 1, 1}, Tripped: []bool{true, true, true}, Trips: []int{0, 0, 0}}
		var bad []string
		if silent {
			g.Silence, want.Quiet, want.Why = 1, 1, api.BySilent
		}
		if many {
			g.Most, want.Why = 3, api.ByTrips
		}
		if third {
			g.Monitors[2].Tier, want.Why, bad = 3, 2, []string{"c"}
		}
		if second {
			g.Monitors[1].Tier, want.Why, bad = 3, 1, append([]string{"b"}, bad...)
		}
		names := []string{"a", "b", "c"}
		if want.Safe = i > 0; want.Safe {
			names = append([]string{"s"}, bad...)
		}
		v, _ := guard.Begin(g)
		act(t, g, v, moment{values: []int{1}}, want, names...)
		// What is safe already keeps its reason, and of names those of Tier 3 alone are told.
		v.Safe, v.Why, want.Safe, want.Why = true, 0, true, 0
		act(t, g, v, moment{values: []int{1}, leave: true}, want, bad...)
	}
}

// TestOnlyNewTripsAreBad: a monitor of Tier 3 that has tripped ahead of this tick makes nothing safe once more.
func TestOnlyNewTripsAreBad(t *testing.T) {
	g := guardOf(api.Monitor{For: 2, Tier: 3, Then: "a"})
	v := api.Vigil{Why: api.NoWhy, Bad: []int{2}, Tripped: []bool{true}}
	act(t, g, v, moment{values: []int{1}}, v)
	// One that is as bad as can be, and has not tripped yet, does so now.
	act(t, g, api.Vigil{Why: api.NoWhy, Bad: []int{2}, Tripped: []bool{false}}, moment{values: []int{1}},
		api.Vigil{Safe: true, Why: 0, Bad: []int{2}, Tripped: []bool{true}, Trips: []int{0}}, "a")
}

// TestWindow: a trip is forgotten when it is as old as the window.
func TestWindow(t *testing.T) {
	for _, window := range []int{1, 2, 9, api.MaxTicks} {
		g := api.Guard{Most: 4, Window: window}
		v := api.Vigil{Why: api.NoWhy, Trips: []int{window - 1, window - 1}}
		act(t, g, v, moment{}, api.Vigil{Why: api.NoWhy})
		if window > 1 {
			v.Trips = []int{window - 1, window - 2, 0}
			act(t, g, v, moment{}, api.Vigil{Why: api.NoWhy, Trips: []int{window - 1, 1}})
		}
	}
	// Forgotten ones do not count for Most, all others do, also such as have come long ago.
	g := api.Guard{Most: 2, Window: 5}
	act(t, g, api.Vigil{Why: api.NoWhy, Trips: []int{4, 0}}, moment{}, api.Vigil{Why: api.NoWhy, Trips: []int{1}})
	act(t, g, api.Vigil{Why: api.NoWhy, Trips: []int{3, 0}}, moment{}, api.Vigil{Safe: true, Why: api.ByTrips, Trips: []int{4, 1}})
}

// TestLeaving: with all that is needed, and without each part of it.
func TestLeaving(t *testing.T) {
	g := api.Guard{Monitors: []api.Monitor{{High: 9, For: 2, Tier: 1, Then: "a"}, {Of: 1, High: 9, For: 2, Tier: 1, Then: "b"}}, Silence: 3, Most: 1, Window: 9, Safe: "s"}
	safe := api.Vigil{Safe: true, Why: api.ByTrips, Bad: []int{1, 0}, Tripped: []bool{false, false}, Trips: []int{4, 2}}
	// What is bad, but has not lasted, holds nobody back.
	act(t, g, safe, moment{[]int{0, 10}, true, true}, api.Vigil{Why: api.NoWhy, Bad: []int{0, 1}, Tripped: []bool{false, false}})
	stays := api.Vigil{Safe: true, Why: api.ByTrips, Bad: []int{0, 0}, Tripped: []bool{false, false}, Trips: []int{5, 3}}
	act(t, g, safe, moment{[]int{0, 0}, true, false}, stays)
	stays.Quiet = 1
	act(t, g, safe, moment{[]int{0, 0}, false, true}, stays)
	// One that trips in this very tick does; its name is not told.
	trips := api.Vigil{Safe: true, Why: api.ByTrips, Bad: []int{2, 0}, Tripped: []bool{true, false}, Trips: []int{5, 3, 0}}
	act(t, g, safe, moment{[]int{10, 0}, true, true}, trips)
	// One that is right again in this tick does not.
	act(t, g, trips, moment{[]int{0, 0}, true, true}, api.Vigil{Why: api.NoWhy, Bad: []int{0, 0}, Tripped: []bool{false, false}})
	// What is made safe in a tick stays so in it.
	free := api.Vigil{Why: api.NoWhy, Bad: []int{0, 0}, Tripped: []bool{false, false}, Trips: []int{4}}
	act(t, g, free, moment{[]int{0, 0}, true, true}, api.Vigil{Safe: true, Why: api.ByTrips, Bad: []int{0, 0}, Tripped: []bool{false, false}, Trips: []int{5}}, "s")
}

// TestStaysSafe: nothing but the ground's leave, heard while nothing is wrong, ends safety; and each vigil may be.
func TestStaysSafe(t *testing.T) {
	r := rand.New(rand.NewSource(122))
	left := 0
	for range 2000 {
		g := drawnGuard(r, r.Intn(5))
		v, _ := guard.Begin(g)
		for range 30 {
			values := []int{r.Intn(7) - 3, r.Intn(7) - 3, r.Intn(7) - 3}
			heard, leave := r.Intn(2) == 0, r.Intn(2) == 0
			next, _, e := guard.Step(g, v, values, heard, leave)
			if e != api.OK {
				t.Fatalf("%s: %+v: %v", short(g), v, e)
			}
			if v.Safe && !next.Safe {
				left++
				if !heard || !leave || slices.Contains(next.Tripped, true) {
					t.Fatalf("%s: %+v: %+v", short(g), v, next)
				}
			}
			if v.Safe && next.Safe && v.Why != next.Why {
				t.Fatalf("%s: %+v: %+v", short(g), v, next)
			}
			v = next
		}
	}
	if left < 100 {
		t.Error("safety was left", left, "times alone")
	}
}

// TestAgain: the same answer for the same question, whatever was asked between.
func TestAgain(t *testing.T) {
	r := rand.New(rand.NewSource(123))
	for range 300 {
		g := drawnGuard(r, 5)
		v, _ := guard.Begin(g)
		values := []int{r.Intn(7) - 3, r.Intn(7) - 3, r.Intn(7) - 3}
		one, l, _ := guard.Step(g, v, values, false, false)
		guard.Step(g, one, values, false, true)
		other, m, _ := guard.Step(g, v, values, false, false)
		if !reflect.DeepEqual(one, other) || !slices.Equal(l, m) {
			t.Fatalf("%s: %v %v, %v %v", short(g), one, l, other, m)
		}
	}
}
