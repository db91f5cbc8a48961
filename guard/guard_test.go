package guard_test

import (
	"fmt"
	"math"
	"reflect"
	"slices"
	"strings"
	"testing"

	"farhail/api"
	"farhail/guard"
)

// far: numbers outside least to most.
func far(least, most int) []int { return []int{least - 1, most + 1, math.MinInt, math.MaxInt} }

// edges: numbers at the ends of least to most.
func edges(least, most int) []int { return []int{least, least + 1, most - 1, most} }

// calm: a monitor that may be.
func calm() api.Monitor { return api.Monitor{High: 9, For: 2, Tier: 1} }

// guardOf monitors, all else as it may be.
func guardOf(l ...api.Monitor) api.Guard { return api.Guard{Monitors: l, Most: 9, Window: 9} }

// monitorWith a change, and guardWith one.
func monitorWith(change func(m *api.Monitor)) api.Monitor {
	m := calm()
	change(&m)
	return m
}

func guardWith(change func(g *api.Guard)) api.Guard {
	g := guardOf(calm(), calm())
	change(&g)
	return g
}

// goodNames and badNames: what is one (P11.1), and what is none.
func goodNames() []string {
	l := []string{"a", "z", "m0", "a_", "b9_c", "end", "a123456789_bcdez", strings.Repeat("x", api.MaxName)}
	for c := 'a'; c <= 'z'; c++ {
		l = append(l, string(c), "q"+string(c))
	}
	for c := '0'; c <= '9'; c++ {
		l = append(l, "q"+string(c))
	}
	return l
}

func badNames() []string {
	l := []string{"_", "_a", "0", "0a", "9z", " a", "a ", "a b", "a\n", "a-b", "END", "Safe", "sAfe", "saf\xc3\xa9", "\x00", "a\x00", "é",
		strings.Repeat("x", api.MaxName+1), strings.Repeat("x", 100000)}
	for c := range 256 {
		b := byte(c)
		small, more := b >= 'a' && b <= 'z', b >= '0' && b <= '9' || b == '_'
		if !small {
			l = append(l, string([]byte{b}), string([]byte{b, 'a'}))
		}
		if !small && !more {
			l = append(l, string([]byte{'a', b}), string([]byte{'a', b, 'a'}))
		}
	}
	return l
}

// rightMonitors, at the edges of what may be.
func rightMonitors() (l []api.Monitor) {
	add := func(change func(m *api.Monitor)) { l = append(l, monitorWith(change)) }
	for _, n := range edges(0, api.MaxNames-1) {
		add(func(m *api.Monitor) { m.Of = n })
	}
	for _, n := range edges(math.MinInt32, math.MaxInt32) {
		add(func(m *api.Monitor) { m.Low, m.High = n, n })
		add(func(m *api.Monitor) { m.Low, m.High = math.MinInt32, n })
		add(func(m *api.Monitor) { m.Low, m.High = n, math.MaxInt32 })
	}
	for _, n := range edges(1, api.MaxWait) {
		add(func(m *api.Monitor) { m.For = n })
	}
	for _, n := range []int{1, 2, 3} {
		add(func(m *api.Monitor) { m.Tier = n })
	}
	for _, s := range append(goodNames(), "") {
		add(func(m *api.Monitor) { m.Then = s })
	}
	return l
}

// wrongRanges: monitors with one number that may not be.
func wrongRanges() (l []api.Monitor) {
	add := func(change func(m *api.Monitor)) { l = append(l, monitorWith(change)) }
	for _, n := range far(0, api.MaxNames-1) {
		add(func(m *api.Monitor) { m.Of = n })
	}
	for _, n := range far(math.MinInt32, math.MaxInt32) {
		add(func(m *api.Monitor) { m.Low = n })
		add(func(m *api.Monitor) { m.High = n })
		add(func(m *api.Monitor) { m.Low, m.High = n, n })
		add(func(m *api.Monitor) { m.Low, m.High = min(n, 0), max(n, 0) })
	}
	add(func(m *api.Monitor) { m.Low, m.High = math.MaxInt32+1, math.MaxInt32+2 })
	add(func(m *api.Monitor) { m.Low, m.High = math.MinInt32-2, math.MinInt32-1 })
	add(func(m *api.Monitor) { m.Low, m.High = 1, 0 })
	add(func(m *api.Monitor) { m.Low, m.High = 0, -1 })
	add(func(m *api.Monitor) { m.Low, m.High = math.MaxInt32, math.MinInt32 })
	for _, n := range far(1, api.MaxWait) {
		add(func(m *api.Monitor) { m.For = n })
	}
	for _, n := range far(1, 3) {
		add(func(m *api.Monitor) { m.Tier = n })
	}
	return l
}

// wrongMonitors, by what is wrong with them first.
func wrongMonitors() map[api.Errno][]api.Monitor {
	l := map[api.Errno][]api.Monitor{api.ErrRange: wrongRanges()}
	for _, m := range wrongRanges() {
		m.Then = "No"
		l[api.ErrRange] = append(l[api.ErrRange], m)
	}
	for _, s := range badNames() {
		l[api.ErrName] = append(l[api.ErrName], monitorWith(func(m *api.Monitor) { m.Then = s }))
	}
	return l
}

// rightRests: guards that may be, at the edges of what is no monitor.
func rightRests() (l []api.Guard) {
	add := func(change func(g *api.Guard)) { l = append(l, guardWith(change)) }
	for _, n := range edges(0, api.MaxSilence) {
		add(func(g *api.Guard) { g.Silence = n })
	}
	for _, n := range edges(1, api.MaxTrips) {
		add(func(g *api.Guard) { g.Most = n })
	}
	for _, n := range edges(1, api.MaxTicks) {
		add(func(g *api.Guard) { g.Window = n })
	}
	for _, s := range append(goodNames(), "") {
		add(func(g *api.Guard) { g.Safe = s })
	}
	for _, n := range []int{0, 1, api.MaxMonitors} {
		add(func(g *api.Guard) { g.Monitors = slices.Repeat([]api.Monitor{calm()}, n) })
	}
	return l
}

// wrongRests: guards of which something is wrong that is no monitor.
func wrongRests() map[api.Errno][]api.Guard {
	l := map[api.Errno][]api.Guard{}
	for _, safe := range []string{"", "a", "No"} {
		add := func(change func(g *api.Guard)) {
			g := guardWith(change)
			g.Safe = safe
			l[api.ErrRange] = append(l[api.ErrRange], g)
		}
		for _, n := range far(0, api.MaxSilence) {
			add(func(g *api.Guard) { g.Silence = n })
		}
		for _, n := range far(1, api.MaxTrips) {
			add(func(g *api.Guard) { g.Most = n })
		}
		for _, n := range far(1, api.MaxTicks) {
			add(func(g *api.Guard) { g.Window = n })
		}
	}
	for _, s := range badNames() {
		l[api.ErrName] = append(l[api.ErrName], guardWith(func(g *api.Guard) { g.Safe = s }))
	}
	return l
}

// refused: does each call refuse a guard, with that fault?
func refused(t *testing.T, g api.Guard, want api.Fault) {
	t.Helper()
	if f := guard.Check(g); f != want {
		t.Errorf("Check of %s: %v, not %v", short(g), f, want)
	}
	if v, e := guard.Begin(g); e != want.Code || !reflect.DeepEqual(v, api.Vigil{}) {
		t.Errorf("Begin of %s: %v %v, not %v", short(g), v, e, want.Code)
	}
	// As the vigil and the values may not be either, the guard's error is the one that is named first.
	good := api.Vigil{Why: api.NoWhy, Bad: make([]int, len(g.Monitors)), Tripped: make([]bool, len(g.Monitors))}
	for _, v := range []api.Vigil{good, {}} {
		for _, values := range [][]int{nil, make([]int, api.MaxNames)} {
			if v, l, e := guard.Step(g, v, values, true, true); e != want.Code || len(l) != 0 || !reflect.DeepEqual(v, api.Vigil{}) {
				t.Errorf("Step of %s: %v %v %v, not %v", short(g), v, l, e, want.Code)
			}
		}
	}
}

// short: a guard's text, or its beginning.
func short(g api.Guard) string {
	s := fmt.Sprintf("%#v", g)
	return s[:min(len(s), 400)]
}

// taken: do Check and Begin take a guard?
func taken(t *testing.T, g api.Guard) {
	t.Helper()
	if f := guard.Check(g); f != (api.Fault{}) {
		t.Errorf("Check of %s: %v", short(g), f)
	}
	v, e := guard.Begin(g)
	n := len(g.Monitors)
	if e != api.OK || v.Safe || v.Why != api.NoWhy || !slices.Equal(v.Bad, make([]int, n)) || !slices.Equal(v.Tripped, make([]bool, n)) || v.Quiet != 0 || len(v.Trips) != 0 {
		t.Errorf("Begin of %s: %+v %v", short(g), v, e)
	}
}

func TestRightGuards(t *testing.T) {
	for _, m := range rightMonitors() {
		taken(t, guardOf(m))
		taken(t, guardOf(calm(), m, calm()))
	}
	for _, g := range rightRests() {
		taken(t, g)
	}
	taken(t, api.Guard{Most: 1, Window: 1})
}

func TestWrongMonitors(t *testing.T) {
	for want, l := range wrongMonitors() {
		for _, m := range l {
			refused(t, guardOf(m), api.Fault{Code: want, At: 0})
			refused(t, guardOf(calm(), calm(), m, calm()), api.Fault{Code: want, At: 2})
		}
	}
}

// TestFirstWrongMonitor: it counts, whatever is wrong with those behind it, or with the rest.
func TestFirstWrongMonitor(t *testing.T) {
	wrong := wrongMonitors()
	number, name := wrong[api.ErrRange][0], wrong[api.ErrName][0]
	for i := range api.MaxMonitors {
		ahead := slices.Repeat([]api.Monitor{calm()}, i)
		for _, l := range [][]api.Monitor{{name}, {number}, {name, number}, {number, name}} {
			g := guardOf(append(slices.Clone(ahead), l...)...)
			if len(g.Monitors) > api.MaxMonitors {
				continue
			}
			want := api.Fault{Code: api.ErrRange, At: i}
			if l[0].Then != "" {
				want.Code = api.ErrName
			}
			refused(t, g, want)
			g.Silence, g.Safe = -1, "No"
			refused(t, g, want)
		}
	}
}

func TestWrongRests(t *testing.T) {
	for want, l := range wrongRests() {
		for _, g := range l {
			refused(t, g, api.Fault{Code: want})
		}
	}
}

func TestTooManyMonitors(t *testing.T) {
	for _, n := range []int{api.MaxMonitors + 1, api.MaxMonitors + 2, 1000} {
		g := guardOf(slices.Repeat([]api.Monitor{calm()}, n)...)
		refused(t, g, api.Fault{Code: api.ErrSize})
		g.Monitors[3].Tier, g.Silence, g.Safe = 0, -1, "No"
		refused(t, g, api.Fault{Code: api.ErrSize})
	}
}
