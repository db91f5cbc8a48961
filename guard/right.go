package guard

import (
	"math"
	"slices"

	"farhail/api"
)

// worst is the tier of what makes the craft safe at once.
const worst = 3

// wrongMonitor: why there may be no such monitor.
func wrongMonitor(m api.Monitor) api.Errno {
	switch {
	case !within(m.Of, 0, api.MaxNames-1) ||
		!within(m.Low, math.MinInt32, math.MaxInt32) || !within(m.High, m.Low, math.MaxInt32) ||
		!within(m.For, 1, api.MaxWait) || !within(m.Tier, 1, worst):
		return api.ErrRange
	case !nameOrNone(m.Then):
		return api.ErrName
	}
	return api.OK
}

// wrongRest: what is wrong with a guard, beside its monitors.
func wrongRest(g api.Guard) api.Errno {
	switch {
	case !within(g.Silence, 0, api.MaxSilence) || !within(g.Most, 1, api.MaxTrips) || !within(g.Window, 1, api.MaxTicks):
		return api.ErrRange
	case !nameOrNone(g.Safe):
		return api.ErrName
	}
	return api.OK
}

// vigilMayBe: of a guard that is right.
func vigilMayBe(g api.Guard, v api.Vigil) bool {
	return monitorsMayStand(g.Monitors, v) && within(v.Quiet, 0, g.Silence) &&
		tripsMayBe(v.Trips, g.Window) && whyMayBe(v, len(g.Monitors))
}

// monitorsMayStand as a vigil tells it?
func monitorsMayStand(l []api.Monitor, v api.Vigil) bool {
	if len(v.Bad) != len(l) || len(v.Tripped) != len(l) {
		return false
	}
	for i, m := range l {
		if !within(v.Bad[i], 0, m.For) || v.Tripped[i] && v.Bad[i] != m.For {
			return false
		}
	}
	return true
}

func tripsMayBe(trips []int, window int) bool {
	if len(trips) > api.MaxTrips {
		return false
	}
	// No trip is elder than the one ahead of it.
	eldest := window - 1
	for _, age := range trips {
		if !within(age, 0, eldest) {
			return false
		}
		eldest = age
	}
	return true
}

// whyMayBe: may a vigil over so many monitors have its Why?
func whyMayBe(v api.Vigil, monitors int) bool {
	if !v.Safe {
		return v.Why == api.NoWhy
	}
	return v.Why != api.NoWhy && within(v.Why, api.ByTrips, monitors-1)
}

// allMeasured: is there a value for each monitor, among so many?
func allMeasured(l []api.Monitor, values int) bool {
	return !slices.ContainsFunc(l, func(m api.Monitor) bool { return m.Of >= values })
}

// nameOrNone: is a text a name of a sequence, or nothing?
func nameOrNone(s string) bool {
	if s == "" {
		return true
	}
	return len(s) <= api.MaxName && small(s[0]) && !slices.ContainsFunc([]byte(s), outsideName)
}

func outsideName(c byte) bool { return !small(c) && !(c >= '0' && c <= '9') && c != '_' }

func small(c byte) bool { return c >= 'a' && c <= 'z' }

// within: is a number from least to most?
func within(n, least, most int) bool { return n >= least && n <= most }
