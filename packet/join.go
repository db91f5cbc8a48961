package packet

import (
	"slices"

	"farhail/api"
)

// anyCount: a packet of any number may come.
const anyCount = -1

// couldBe: is this what Begin and Join may have answered?
func couldBe(j api.Joined) bool {
	if !someones(j.Apid) || j.Next < anyCount || j.Next > api.MaxCount || len(j.Unit) > api.MaxUnit {
		return false
	}
	if j.Open {
		return len(j.Unit) > 0 && j.Next != anyCount
	}
	return len(j.Unit) == 0
}

// joiner is who joins, while a packet comes: what is joined, and whether something was lost. Its Unit may be what was handed in, until a packet has been taken.
type joiner struct {
	api.Joined
	lost bool
}

// take a packet; the unit that is whole by it.
func (j *joiner) take(p api.Packet) []byte {
	if j.Next != anyCount && j.Next != p.Count {
		j.lost = true
		j.drop()
	}
	j.Next = countBehind(p.Count)
	switch p.Part {
	case api.Whole:
		j.drop()
		return slices.Clone(p.Data)
	case api.First:
		j.drop()
		j.Open, j.Unit = true, slices.Clone(p.Data)
		return nil
	}
	j.goOn(p.Data)
	if p.Part == api.Last {
		return j.finish()
	}
	return nil
}

// drop what is open, if something is: then it is lost.
func (j *joiner) drop() {
	j.lost = j.lost || j.Open
	j.Open, j.Unit = false, nil
}

// goOn with data behind what is open; where they have no place, they are lost.
func (j *joiner) goOn(data []byte) {
	switch {
	case !j.Open:
		j.lost = true
		j.Unit = nil // it has no bytes, but may have room that was handed in
	case len(j.Unit)+len(data) > api.MaxUnit:
		j.drop()
	default:
		j.Unit = slices.Concat(j.Unit, data)
	}
}

// finish: what is open is a unit; nothing, if nothing is open.
func (j *joiner) finish() []byte {
	unit := j.Unit
	j.Open, j.Unit = false, nil
	return unit
}
