package command

import "farhail/api"

// The bits of a report: eight of Next lie lowest, then one that is always 0, then two of Count, then these.
const (
	againBit = 1 << (iota + 11)
	waitBit
	shutBit
)

const (
	countPlace = 9
	maxCount   = 3
	maxHalf    = 127
	maxStatus  = 1<<32 - 1
)

// statusForm: the bits that are always the same; statusTells: all others.
const (
	statusForm  = 0x01000000
	statusTells = shutBit | waitBit | againBit | maxCount<<countPlace | maxNumber
)

// What an order for the gate itself begins with.
const (
	unlock = 0x00
	renew  = 0x82
)

// gate is a gate at work.
type gate struct {
	api.Gate
}

func gateMayBe(g api.Gate) bool {
	return within(g.Craft, 0, api.MaxCraft) && within(g.Half, 1, maxHalf) &&
		within(g.Next, 0, maxNumber) && within(g.Count, 0, maxCount)
}

// take an order that may be, and is for this craft: is its command let in?
func (g *gate) take(o api.Order, room bool) (bool, api.Errno) {
	switch {
	case o.Control:
		return false, g.obey(o.Data)
	case o.Bypass:
		g.countOne()
		return true, api.OK
	}
	e := g.queue(o.Seq, room)
	return e == api.OK, e
}

// countOne of those that are not held up.
func (g *gate) countOne() { g.Count = (g.Count + 1) & maxCount }

// obey what is for the gate itself.
func (g *gate) obey(data []byte) api.Errno {
	switch {
	case len(data) == 1 && [1]byte(data) == [1]byte{unlock}:
		g.Shut = false
		g.calm()
	case len(data) == 3 && [2]byte(data) == [2]byte{renew, 0}:
		if !g.Shut {
			g.Next = int(data[2])
			g.calm()
		}
	default:
		return api.ErrForm
	}
	g.countOne()
	return api.OK
}

// calm: nothing is wished for any more.
func (g *gate) calm() { g.Wait, g.Again = false, false }

// queue: an order has to be the next one.
func (g *gate) queue(seq int, room bool) api.Errno {
	if g.Shut {
		return api.ErrShut
	}
	d := around(seq - g.Next)
	switch {
	case d == 0 && room:
		g.Next = around(g.Next + 1)
		g.calm()
		return api.OK
	case d == 0:
		g.Wait, g.Again = true, true
		return api.ErrFull
	case d < g.Half:
		g.Again = true
		return api.ErrMore
	case d > maxNumber-g.Half:
		return api.ErrOld
	}
	g.Shut = true
	return api.ErrShut
}
