package mission

import (
	"slices"

	"farhail/api"
	"farhail/command"
	"farhail/deliver"
	"farhail/frame"
	"farhail/keys"
	"farhail/packet"
)

func (c *course) deskMayBe(d api.Desk) bool {
	return c.handMayBe(d.Hand) && keyMayBe(d.Key) && within(d.Counter, 0, api.MaxCounter) &&
		len(d.Left) < c.wayBits() && allWithin(d.Left, 0, 1) &&
		c.listenerMayBe(d.Listener) && joinsMayBe(d.Joins) &&
		fewUnlike(d.Takers, api.MaxFiles, takerID, takerMayBe)
}

func (c *course) handMayBe(h api.Hand) bool {
	_, e := command.Ask(h, nil)
	return e != api.ErrState && h.Craft == c.Craft && h.Ahead == c.Ahead &&
		h.Patience == c.Patience && h.Pause == c.Pause && h.Limit == c.Limit
}

func keyMayBe(k api.Key) bool {
	_, e := keys.Add(api.Ring{}, k)
	return e == api.OK
}

func (c *course) listenerMayBe(l api.Listener) bool {
	_, _, _, _, e := frame.Hear(l, nil)
	return e != api.ErrState && l.Craft == c.Craft && l.Size == c.Size
}

func joinsMayBe(joins []api.Joined) bool {
	if len(joins) != apids {
		return false
	}
	for i, j := range joins {
		if _, _, _, e := packet.Join(j, api.Packet{}); e == api.ErrState || j.Apid != firstApid+i {
			return false
		}
	}
	return true
}

func takerID(t api.Taker) int { return t.ID }

func takerMayBe(t api.Taker) bool {
	_, _, e := deliver.Take(t, api.Note{})
	return e != api.ErrState
}

// deskOf: the same desk, which may be, in memory of its own.
func deskOf(d api.Desk) api.Desk {
	d.Hand, _ = command.Ask(d.Hand, nil)
	d.Key.Words = slices.Clone(d.Key.Words)
	d.Left = slices.Clone(d.Left)
	d.Listener, _, _, _, _ = frame.Hear(d.Listener, nil)
	d.Joins = copied(d.Joins, func(j api.Joined) api.Joined {
		j.Unit = slices.Clone(j.Unit)
		return j
	})
	d.Takers = copied(d.Takers, func(t api.Taker) api.Taker {
		t, _, _ = deliver.Take(t, api.Note{})
		return t
	})
	return d
}
