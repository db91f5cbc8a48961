package mission

import (
	"math"

	"farhail/api"
	"farhail/command"
	"farhail/deliver"
	"farhail/frame"
	"farhail/guard"
	"farhail/keys"
	"farhail/sequence"
)

// The apids by which the craft tells something: Reports, Events, Notes.
const (
	firstApid = api.Reports
	apids     = api.Notes - api.Reports + 1
)

const (
	leastValue = math.MinInt32
	mostValue  = math.MaxInt32
	mostCode   = 1<<api.WordBits - 1
)

// What no layer takes: whoever is asked for it answers that things may not stand so, or else refuses this and answers them as they were, in new memory.
const (
	noKey      = -1
	noChannel  = -1
	noSequence = ""
)

func (c *course) boardMayBe(b api.Board) bool {
	return within(b.Now, 0, api.MaxTime) && c.gateMayBe(b.Gate) && ringMayBe(b.Ring) &&
		len(b.Values) == len(c.Names) && allWithin(b.Values, leastValue, mostValue) &&
		c.vigilMayBe(b.Vigil) && c.crewMayBe(b.Crew, b.Vigil.Safe) && c.senderMayBe(b.Sender) &&
		len(b.Counts) == apids && allWithin(b.Counts, 0, api.MaxCount) &&
		len(b.Codes) == c.Words && allWithin(b.Codes, 0, mostCode) && within(b.Next, 0, c.Words-1) &&
		fewUnlike(b.Givers, api.MaxFiles, giverID, giverMayGoOn)
}

func (c *course) gateMayBe(g api.Gate) bool {
	_, e := command.Report(g)
	return e == api.OK && g.Craft == c.Craft && g.Half == c.Half
}

func ringMayBe(r api.Ring) bool {
	_, e := keys.Drop(r, noKey)
	return e != api.ErrState
}

// ringOf: the same ring, in memory of its own.
func ringOf(r api.Ring) api.Ring {
	r, _ = keys.Drop(r, noKey)
	return r
}

func (c *course) vigilMayBe(v api.Vigil) bool {
	_, _, e := guard.Step(c.Guard, v, make([]int, len(c.Names)), false, false)
	return e == api.OK
}

func (c *course) crewMayBe(crew api.Crew, safe bool) bool {
	_, _, e := sequence.Start(c.Text, c.Names, crew, noSequence)
	return e != api.ErrState && !(safe && c.anyLow(crew))
}

func (c *course) anyLow(crew api.Crew) bool {
	for _, t := range crew.Tasks {
		if c.lowTask(t) {
			return true
		}
	}
	return false
}

func (c *course) lowTask(t api.Task) bool { return c.low(t.Places[0].Seq) }

func (c *course) senderMayBe(s api.Sender) bool {
	_, e := frame.Put(s, noChannel, nil)
	return e != api.ErrState && s.Craft == c.Craft && s.Size == c.Size
}

func giverID(g api.Giver) int { return g.ID }

func giverMayGoOn(g api.Giver) bool {
	_, _, e := deliver.Reply(g, api.Note{})
	return e != api.ErrState && !ended(g.Stage)
}

// ended: has a file come to its end, well or not?
func ended(s api.Stage) bool { return s == api.Over || s == api.Failed }
