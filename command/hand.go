package command

import (
	"slices"

	"farhail/api"
)

// hand is a hand at work, with what goes up.
type hand struct {
	api.Hand
	up [][]byte
}

// apart: a step is done on a copy, so that no memory is shared with what was handed in.
func apart(h api.Hand, step func(at *hand) api.Errno) (api.Hand, [][]byte, api.Errno) {
	if !handMayBe(h) {
		return api.Hand{}, nil, api.ErrState
	}
	at := &hand{Hand: h}
	at.Sent, at.Asked = copyAll(h.Sent), copyAll(h.Asked)
	e := step(at)
	return at.Hand, at.up, e
}

func copyAll(commands [][]byte) [][]byte {
	out := make([][]byte, len(commands))
	for i, data := range commands {
		out[i] = slices.Clone(data)
	}
	return out
}

func handMayBe(h api.Hand) bool {
	return within(h.Craft, 0, api.MaxCraft) && within(h.Ahead, 1, api.MaxAhead) &&
		within(h.Patience, 1, api.MaxWait) && within(h.Pause, 0, api.MaxWait) && within(h.Limit, 1, api.MaxTries) &&
		within(h.Next, 0, maxNumber) && commandsMayBe(h.Sent, h.Ahead) && commandsMayBe(h.Asked, api.MaxAsked) &&
		within(h.Timer, 0, h.Patience-1) && within(h.Tries, 0, h.Limit) && within(h.Since, 0, h.Pause) &&
		haltMayBe(h.Halt)
}

func commandsMayBe(commands [][]byte, most int) bool {
	if len(commands) > most {
		return false
	}
	for _, data := range commands {
		if !sizeMayBe(data) {
			return false
		}
	}
	return true
}

func haltMayBe(halt api.Errno) bool {
	switch halt {
	case api.OK, api.ErrShut, api.ErrState, api.ErrEnd:
		return true
	}
	return false
}

// tick of a hand that does not stand still.
func (h *hand) tick(status int, heard bool) {
	h.Since = min(h.Since+1, h.Pause)
	// What was not heard wishes for nothing.
	var g api.Gate
	if heard {
		told, e := Read(status)
		if e == api.OK {
			g = told
			h.settle(g)
		}
	}
	if h.Halt == api.OK {
		h.sendAgain(g)
	}
	if h.Halt == api.OK && !g.Wait {
		h.sendNew()
	}
}

// settle: what the gate has let in is sent no more.
func (h *hand) settle(g api.Gate) {
	there := around(g.Next - h.first())
	if there > len(h.Sent) {
		h.Halt = api.ErrState
		return
	}
	if there > 0 {
		h.Sent = slices.Delete(h.Sent, 0, there)
		h.Timer, h.Tries = 0, 0
	}
	if g.Shut {
		h.Halt = api.ErrShut
	}
}

// first: the number of the first one that is sent.
func (h *hand) first() int { return around(h.Next - len(h.Sent)) }

// sendAgain what is sent, if the gate wishes it or it has taken too long.
func (h *hand) sendAgain(g api.Gate) {
	if len(h.Sent) == 0 {
		h.Timer = 0
		return
	}
	wished := g.Again && !g.Wait && h.Since == h.Pause
	if !wished && h.Timer+1 < h.Patience {
		h.Timer++
		return
	}
	h.Timer, h.Since = 0, 0
	if h.Tries == h.Limit {
		h.Halt = api.ErrEnd
		return
	}
	h.Tries++
	first := h.first()
	for i, data := range h.Sent {
		h.send(api.Order{Seq: around(first + i), Data: data})
	}
}

// sendNew ones, as many as may be on their way.
func (h *hand) sendNew() {
	n := min(h.Ahead-len(h.Sent), len(h.Asked))
	for _, data := range h.Asked[:n] {
		h.send(api.Order{Seq: h.Next, Data: data})
		h.Next = around(h.Next + 1)
	}
	h.Sent = append(h.Sent, h.Asked[:n]...)
	h.Asked = slices.Delete(h.Asked, 0, n)
}

// send an order up, for the hand's craft.
func (h *hand) send(o api.Order) {
	o.Craft = h.Craft
	h.up = append(h.up, orderBytes(o))
}
