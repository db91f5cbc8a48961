package mission

import (
	"slices"

	"farhail/api"
	"farhail/command"
	"farhail/deliver"
	"farhail/frame"
	"farhail/keys"
	"farhail/packet"
)

// ground is a desk in a tick: the last status, if one was heard; what was told; the files that are whole; how many frames were lost; the notes that are to go up.
type ground struct {
	api.Desk
	plan   course
	status int
	heard  bool
	units  []api.Unit
	files  []api.File
	lost   int
	notes  []api.Note
}

// manned: a desk that may be, in memory of its own.
func manned(c course, d api.Desk) *ground { return &ground{Desk: deskOf(d), plan: c} }

// tick of the ground; what goes up.
func (g *ground) tick(bits []byte) [][]byte {
	for _, data := range g.search(bits) {
		g.hear(data)
	}
	for _, u := range g.units {
		if u.Apid == api.Notes {
			g.take(u.Data)
		}
	}
	g.wait()
	for _, n := range g.notes {
		b, _ := deliver.Encode(n)
		// What is refused is asked for again by a note that goes later.
		g.order(append([]byte{'N'}, b...))
	}
	hand, up, _ := command.Step(g.Hand, g.status, g.heard)
	g.Hand = hand
	return up
}

// search what came, behind what was left, for frames.
func (g *ground) search(bits []byte) [][]byte {
	all := g.Left
	for _, b := range bits {
		all = append(all, b&1)
	}
	found, left := g.plan.search(all)
	g.Left = slices.Clone(left)
	return found
}

// hear what came of a frame.
func (g *ground) hear(data []byte) {
	b, e := g.plan.gather(data)
	if e != api.OK {
		return
	}
	listener, heard, lost, status, e := frame.Hear(g.Listener, b)
	if e != api.OK {
		return
	}
	g.Listener, g.lost = listener, g.lost+lost
	g.status, g.heard = status, true
	for _, h := range heard {
		g.join(h.Packet)
	}
}

// join a packet; others than those of the three apids are left alone.
func (g *ground) join(p api.Packet) {
	i := p.Apid - firstApid
	if !within(i, 0, apids-1) {
		return
	}
	joined, unit, _, e := packet.Join(g.Joins[i], p)
	if e != api.OK {
		return
	}
	g.Joins[i] = joined
	if len(unit) > 0 {
		g.units = append(g.units, api.Unit{Apid: p.Apid, Data: unit})
	}
}

// take a unit that may be a note.
func (g *ground) take(unit []byte) {
	n, e := deliver.Decode(unit)
	if e != api.OK {
		return
	}
	at := g.takerFor(n)
	if at < 0 {
		return
	}
	was := g.Takers[at].Stage
	taker, notes, e := deliver.Take(g.Takers[at], n)
	if e != api.OK {
		return
	}
	g.Takers[at] = taker
	g.notes = append(g.notes, notes...)
	if was != api.Over && taker.Stage == api.Over {
		name, file, _ := deliver.Whole(taker)
		g.files = append(g.files, api.File{ID: n.ID, Name: name, Data: file})
	}
}

// takerFor a note: its place; below 0, if there is none, and none may be made.
func (g *ground) takerFor(n api.Note) int {
	if at := place(g.Takers, n.ID, takerID); at >= 0 {
		return at
	}
	if !slices.Contains([]api.NoteKind{api.Meta, api.Piece, api.End}, n.Kind) || !g.makeRoom() {
		return -1
	}
	t, _ := deliver.Expect(n.ID, g.plan.Wait, g.plan.Tries)
	g.Takers = append(g.Takers, t)
	return len(g.Takers) - 1
}

// makeRoom for a taker more, if need be where a file has ended.
func (g *ground) makeRoom() bool {
	if len(g.Takers) < api.MaxFiles {
		return true
	}
	at := slices.IndexFunc(g.Takers, func(t api.Taker) bool { return ended(t.Stage) })
	if at < 0 {
		return false
	}
	g.Takers = slices.Delete(g.Takers, at, at+1)
	return true
}

// wait: a tick of each file.
func (g *ground) wait() {
	for i, t := range g.Takers {
		taker, notes, _ := deliver.Wait(t)
		g.Takers[i] = taker
		g.notes = append(g.notes, notes...)
	}
}

// order a command: it is sealed, and waits; with an error the desk is as it was.
func (g *ground) order(body []byte) api.Errno {
	if g.Counter == api.MaxCounter {
		return api.ErrEnd
	}
	sealed, e := keys.Seal(g.Key, g.Counter, body)
	if e != api.OK {
		return e
	}
	hand, e := command.Ask(g.Hand, sealed)
	if e != api.OK {
		return e
	}
	g.Hand = hand
	g.Counter++
	return api.OK
}
