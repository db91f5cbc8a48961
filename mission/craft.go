package mission

import (
	"slices"

	"farhail/api"
	"farhail/command"
	"farhail/deliver"
	"farhail/frame"
	"farhail/guard"
	"farhail/keys"
	"farhail/memory"
	"farhail/packet"
	"farhail/sequence"
)

// The channels on which what is told waits.
const (
	eventChannel  = 0
	reportChannel = 1
	noteChannel   = 2
)

// craft is a board in a tick: whether the ground was heard, and said leave; what its sequences said.
type craft struct {
	api.Board
	plan  course
	heard bool
	leave bool
	acts  []api.Said
}

// atWork: a board that may be, in memory of its own. (What of it has a tick in a layer comes from there anew.)
func atWork(c course, b api.Board) *craft {
	b.Ring = ringOf(b.Ring)
	b.Values, b.Counts, b.Codes = slices.Clone(b.Values), slices.Clone(b.Counts), slices.Clone(b.Codes)
	b.Givers = slices.Clone(b.Givers)
	return &craft{Board: b, plan: c}
}

// tick of a craft; the bits that go down.
func (c *craft) tick(came [][]byte, inputs []int, hits []api.Hit) []byte {
	for _, h := range hits {
		c.hit(h)
	}
	copy(c.Values, inputs)
	for _, b := range came {
		c.take(b)
	}
	c.goOn()
	c.watch()
	c.scrub()
	c.give()
	if c.Now%c.plan.Every == 0 {
		c.report()
	}
	c.Now++
	return c.sendDown()
}

func (c *craft) hit(h api.Hit) {
	if c.hasWord(h.Word) && within(h.Bit, 0, api.WordBits-1) {
		c.Codes[h.Word] ^= 1 << h.Bit
	}
}

// take a frame that came up. One that the gate does not accept leaves the ring alone, so that it can be opened when it comes once more.
func (c *craft) take(b []byte) {
	o, e := command.Decode(b)
	if e != api.OK {
		return
	}
	ring, body, _, e := keys.Open(c.Ring, o.Data)
	if e != api.OK {
		return
	}
	o.Data = body
	gate, let, e := command.Accept(c.Gate, o, true)
	c.Gate = gate
	if e != api.OK {
		return
	}
	c.Ring, c.heard = ring, true
	if let {
		c.obey(body)
	}
}

// tell a unit: it is cut into packets, of which those wait that find room.
func (c *craft) tell(apid int, unit ...byte) {
	count, channel := &c.Counts[apid-firstApid], channelOf(apid)
	packets, _ := packet.Cut(false, apid, *count, unit, c.plan.Most)
	*count = (*count + len(packets)) % (api.MaxCount + 1)
	room := api.MaxWaiting - len(c.Sender.Queues[channel].Packets)
	for _, p := range packets[:min(len(packets), room)] {
		b, _ := packet.Encode(p)
		c.Sender, _ = frame.Put(c.Sender, channel, b)
	}
}

// channelOf an apid: each has one of its own, so that none has to wait for another one's packets.
func channelOf(apid int) int {
	switch apid {
	case api.Events:
		return eventChannel
	case api.Reports:
		return reportChannel
	}
	return noteChannel
}

func (c *craft) tellNotes(notes []api.Note) {
	for _, n := range notes {
		b, _ := deliver.Encode(n)
		c.tell(api.Notes, b...)
	}
}

// start a sequence, unless it is too low for a craft that is safe.
func (c *craft) start(name string) api.Errno {
	crew, _, e := sequence.Start(c.plan.Text, c.plan.Names, c.Crew, name)
	if e != api.OK {
		return e
	}
	// Where no task is low, only the new one can be.
	if c.Vigil.Safe && c.plan.anyLow(crew) {
		return api.ErrShut
	}
	c.Crew = crew
	return api.OK
}

// goOn with what is being done.
func (c *craft) goOn() {
	r := sequence.Tick(c.plan.Text, c.plan.Names, c.Crew, c.Values)
	c.Crew, c.Values, c.acts = r.Crew, r.Values, r.Said
	c.startAsked(r.Asked)
}

// startAsked: sequences by their places. They may be asked for very often in a tick; one that was refused would be again, as long as the crew is the same.
func (c *craft) startAsked(places []int) {
	var refused [api.MaxSeqs]bool
	for _, at := range places {
		if refused[at] {
			continue
		}
		if c.start(c.plan.book.Seqs[at].Name) == api.OK {
			refused = [api.MaxSeqs]bool{}
		}
		refused[at] = true // what has just been started is not started twice
	}
}

// watch: the guard takes a step.
func (c *craft) watch() {
	was := c.Vigil.Safe
	vigil, names, _ := guard.Step(c.plan.Guard, c.Vigil, c.Values, c.heard, c.leave)
	c.Vigil = vigil
	switch {
	case vigil.Safe && !was:
		c.Crew.Tasks = slices.DeleteFunc(c.Crew.Tasks, c.plan.lowTask)
		c.tell(api.Events, 'S', byte(vigil.Why))
	case was && !vigil.Safe:
		c.tell(api.Events, 'L')
	}
	for _, name := range names {
		c.start(name)
	}
}

// scrub the next words of the memory.
func (c *craft) scrub() {
	for range c.plan.Scrub {
		if n, e := c.word(c.Next); e == api.OK {
			c.Codes[c.Next], _ = memory.Code(n)
		} else {
			c.tell(api.Events, put([]byte{'M'}, placeBytes, c.Next)...)
		}
		c.Next = (c.Next + 1) % c.plan.Words
	}
}

func (c *craft) hasWord(at int) bool { return within(at, 0, c.plan.Words-1) }

// word at a place that there is; its code stays as it is.
func (c *craft) word(at int) (int, api.Errno) {
	n, _, e := memory.Mend(c.Codes[at])
	return n, e
}

// give: a tick of each file.
func (c *craft) give() {
	var left []api.Giver
	for _, g := range c.Givers {
		g, notes, _ := deliver.Give(g)
		c.tellNotes(notes)
		switch g.Stage {
		case api.Over:
			c.tell(api.Events, put([]byte{'G'}, idBytes, g.ID)...)
		case api.Failed:
			c.tell(api.Events, put([]byte{'B'}, idBytes, g.ID)...)
		default:
			left = append(left, g)
		}
	}
	c.Givers = left
}

// report how the craft stands.
func (c *craft) report() {
	unit := put(nil, numberBytes, c.Now)
	if c.Vigil.Safe {
		unit = append(unit, 1)
	} else {
		unit = append(unit, 0)
	}
	for _, n := range c.Values {
		unit = put(unit, numberBytes, n)
	}
	c.tell(api.Reports, unit...)
}

// sendDown the next frame.
func (c *craft) sendDown() []byte {
	status, _ := command.Report(c.Gate)
	sender, b, _ := frame.Next(c.Sender, status)
	c.Sender = sender
	return c.plan.sendDown(b)
}
