package guard

import (
	"slices"

	"farhail/api"
)

// vigil is one at work, with the places of the monitors that have tripped in this tick.
type vigil struct {
	api.Vigil
	guard api.Guard
	fresh []int
}

// atWork: a vigil in memory of its own.
func atWork(g api.Guard, v api.Vigil) *vigil {
	v.Bad, v.Tripped, v.Trips = slices.Clone(v.Bad), slices.Clone(v.Tripped), slices.Clone(v.Trips)
	return &vigil{Vigil: v, guard: g}
}

func (v *vigil) tick(values []int, heard, leave bool) {
	v.grow(heard)
	for i, m := range v.guard.Monitors {
		v.watch(i, m, values[m.Of])
	}
	// What was made safe in this tick is not left in it.
	if !v.Safe {
		v.Why = v.reason()
		v.Safe = v.Why != api.NoWhy
	} else if leave && heard && !slices.Contains(v.Tripped, true) {
		v.Safe, v.Why, v.Trips = false, api.NoWhy, nil
	}
}

// grow older: the silence, and the trips.
func (v *vigil) grow(heard bool) {
	v.Quiet = min(v.Quiet+1, v.guard.Silence)
	if heard {
		v.Quiet = 0
	}
	for i := range v.Trips {
		v.Trips[i]++
	}
	v.Trips = slices.DeleteFunc(v.Trips, func(age int) bool { return age == v.guard.Window })
}

// watch the monitor at a place, over its variable's value.
func (v *vigil) watch(i int, m api.Monitor, value int) {
	if within(value, m.Low, m.High) {
		v.Bad[i], v.Tripped[i] = 0, false
		return
	}
	v.Bad[i] = min(v.Bad[i]+1, m.For)
	if v.Bad[i] == m.For && !v.Tripped[i] {
		v.trip(i)
	}
}

// trip of the monitor at a place.
func (v *vigil) trip(i int) {
	v.Tripped[i] = true
	v.fresh = append(v.fresh, i)
	v.Trips = append(v.Trips, 0)
	if len(v.Trips) > api.MaxTrips {
		v.Trips = slices.Delete(v.Trips, 0, 1)
	}
}

// reason to make the craft safe; NoWhy, if there is none.
func (v *vigil) reason() int {
	bad := slices.IndexFunc(v.fresh, func(i int) bool { return v.guard.Monitors[i].Tier == worst })
	switch {
	case bad >= 0:
		return v.fresh[bad]
	case len(v.Trips) >= v.guard.Most:
		return api.ByTrips
	case v.guard.Silence > 0 && v.Quiet == v.guard.Silence:
		return api.BySilent
	}
	return api.NoWhy
}

// names of the sequences that are to start behind a tick, ahead of which the craft was free (not safe) or not.
func (v *vigil) names(free bool) []string {
	var l []string
	tell := func(name string) {
		if name != "" {
			l = append(l, name)
		}
	}
	if free && v.Safe {
		tell(v.guard.Safe)
	}
	for _, i := range v.fresh {
		if m := v.guard.Monitors[i]; !v.Safe || m.Tier == worst {
			tell(m.Then)
		}
	}
	return l
}
