package deliver

import (
	"slices"

	"farhail/api"
)

// maxAgain: so much is kept in mind to go once more.
const maxAgain = 1000

// giver is a giver at work, with what goes.
type giver struct {
	api.Giver
	notes []api.Note
}

// giverAtWork shares no memory with what was handed in.
func giverAtWork(g api.Giver) *giver {
	g.File, g.Again = slices.Clone(g.File), slices.Clone(g.Again)
	return &giver{Giver: g}
}

// wrongSide: why neither a giver nor a taker may have these.
func wrongSide(id, patience, limit int) api.Errno {
	if !within(id, 0, maxID) || !within(patience, 1, api.MaxWait) || !within(limit, 1, api.MaxTries) {
		return api.ErrRange
	}
	return api.OK
}

// wrongOffer: of a giver what Offer is handed in.
func wrongOffer(g api.Giver) api.Errno {
	switch {
	case wrongSide(g.ID, g.Patience, g.Limit) != api.OK,
		!within(g.Most, 1, api.MaxPiece), !within(g.Burst, 1, api.MaxBurst):
		return api.ErrRange
	case !nameMayBe(g.Name), len(g.File) > api.MaxFile:
		return api.ErrSize
	}
	return api.OK
}

func giverMayBe(g api.Giver) bool {
	return wrongOffer(g) == api.OK && stageMayBe(g) && within(g.At, 0, len(g.File)) &&
		len(g.Again) <= maxAgain && gapsMayBe(g.Again, len(g.File)) &&
		within(g.Timer, 0, g.Patience-1) && within(g.Tries, 0, g.Limit)
}

// stageMayBe: behind Going all has gone once.
func stageMayBe(g api.Giver) bool {
	switch g.Stage {
	case api.Going:
		return true
	case api.Asking, api.Open, api.Over, api.Failed:
		return g.At == len(g.File) && !g.First
	}
	return false
}

// tick: what there is goes, and then, if the answer has been waited for too long, the End.
func (g *giver) tick() {
	if g.Stage == api.Over || g.Stage == api.Failed {
		return
	}
	waits := g.Stage != api.Going
	for len(g.notes) < g.Burst && g.sendNext() {
	}
	if waits {
		g.wait()
	}
}

// sendNext note; false: behind it none goes in this tick.
func (g *giver) sendNext() bool {
	switch {
	case g.First:
		g.First = false
		g.sendMeta()
	case len(g.Again) > 0:
		g.sendAgain()
	case g.Stage != api.Going:
		return false
	case g.At < len(g.File):
		g.At = g.sendPiece(span{g.At, len(g.File)})
	default:
		g.sendEnd()
		g.Stage, g.Timer, g.Tries = api.Asking, 0, 0
		return false
	}
	return true
}

// sendAgain the first bytes that have to go once more, or the Meta.
func (g *giver) sendAgain() {
	first := &g.Again[0]
	if *first == (span{}) {
		g.sendMeta()
	} else {
		first[0] = g.sendPiece(*first)
	}
	if first[0] == first[1] {
		g.Again = slices.Delete(g.Again, 0, 1)
	}
}

// wait a tick more for an answer.
func (g *giver) wait() {
	if g.Timer++; g.Timer < g.Patience {
		return
	}
	g.Timer = 0
	if g.Tries == g.Limit {
		g.Stage = api.Failed
		return
	}
	g.Tries++
	g.sendEnd()
}

func (g *giver) send(n api.Note) {
	n.ID = g.ID
	g.notes = append(g.notes, n)
}

func (g *giver) sendMeta() {
	g.send(api.Note{Kind: api.Meta, Name: g.Name, Size: len(g.File)})
}

func (g *giver) sendEnd() {
	g.send(api.Note{Kind: api.End, Size: len(g.File), Sum: Sum(g.File)})
}

// sendPiece: the first bytes of a span; where those begin that are left.
func (g *giver) sendPiece(of span) int {
	end := min(of[0]+g.Most, of[1])
	g.send(api.Note{Kind: api.Piece, At: of[0], Data: slices.Clone(g.File[of[0]:end])})
	return end
}

// hear a note that is for a giver.
func (g *giver) hear(n api.Note) {
	switch {
	case g.Stage == api.Failed:
	case n.Kind == api.Done:
		g.send(api.Note{Kind: api.Seen, Of: api.Done})
		g.end(n.Code)
	case g.Stage != api.Over:
		g.Timer, g.Tries = 0, 0
		if n.Of == api.End && g.Stage == api.Asking {
			g.Stage = api.Open
		}
		g.giveAgain(n.Gaps)
	}
}

// end, as the taker told; only the first word counts.
func (g *giver) end(code api.Errno) {
	if g.Stage == api.Over {
		return
	}
	g.Stage = api.Over
	if code != api.OK {
		g.Stage = api.Failed
	}
	g.Again, g.First, g.At = nil, false, len(g.File)
}

// giveAgain what of gaps lies within the file, as long as there is room.
func (g *giver) giveAgain(gaps []span) {
	for _, s := range gaps {
		inside := span{s[0], min(s[1], len(g.File))}
		if len(g.Again) < maxAgain && (s == span{} || inside[0] < inside[1]) {
			g.Again = append(g.Again, inside)
		}
	}
}
