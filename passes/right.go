package passes

import (
	"slices"

	"farhail/api"
)

// wrongPasses: why of such passes none can be chosen.
func wrongPasses(l []api.Pass, gap int) api.Errno {
	switch {
	case len(l) > api.MaxPasses:
		return api.ErrSize
	case !within(gap, 0, api.MaxGap) || slices.ContainsFunc(l, wrongPass):
		return api.ErrRange
	}
	return api.OK
}

func wrongPass(p api.Pass) bool {
	return !within(p.Station, 0, api.MaxStation) || !within(p.From, 0, api.MaxTime) ||
		!within(p.To, p.From+1, api.MaxTime) || !within(p.Worth, 0, api.MaxWorth)
}

// wrongShare: why such jobs can't share such windows.
func wrongShare(w []api.Window, jobs []api.Job) api.Errno {
	switch {
	case len(w) > api.MaxPasses || len(jobs) > api.MaxJobs:
		return api.ErrSize
	case slices.ContainsFunc(w, wrongWindow) || slices.ContainsFunc(jobs, wrongJob):
		return api.ErrRange
	}
	return api.OK
}

func wrongWindow(w api.Window) bool { return !span(w.From, w.To) || !within(w.Rate, 0, api.MaxBytes) }

func wrongJob(j api.Job) bool { return !span(j.From, j.By) || !within(j.Bytes, 0, api.MaxBytes) }

// span: is it one of ticks that are shared?
func span(from, to int) bool { return within(from, 0, api.MaxSpan) && within(to, from, api.MaxSpan) }

// within: is a number from least to most?
func within(n, least, most int) bool { return n >= least && n <= most }
