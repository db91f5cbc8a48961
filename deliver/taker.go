package deliver

import (
	"slices"

	"farhail/api"
)

// taker is a taker at work, with what goes.
type taker struct {
	api.Taker
	notes []api.Note
}

// takerAtWork shares no memory with what was handed in.
func takerAtWork(t api.Taker) *taker {
	t.Have, t.File = slices.Clone(t.Have), slices.Clone(t.File)
	return &taker{Taker: t}
}

func takerMayBe(t api.Taker) bool {
	return wrongSide(t.ID, t.Patience, t.Limit) == api.OK && toldMayBe(t) &&
		spansMayBe(t.Have, api.MaxFile) && fileMayBe(t) && takerStageMayBe(t) &&
		within(t.Timer, 0, t.Patience-1) && within(t.Tries, 0, t.Limit)
}

// toldMayBe: what its Meta and its End told.
func toldMayBe(t api.Taker) bool {
	if t.Known && !nameMayBe(t.Name) || !t.Known && (t.Name != "" || t.Size != 0) {
		return false
	}
	if !t.Ended && (t.Last != 0 || t.Sum != 0) {
		return false
	}
	return within(t.Size, 0, api.MaxFile) && within(t.Last, 0, api.MaxFile) && within(t.Sum, 0, maxSum)
}

// fileMayBe: there is nothing in it but what has come.
func fileMayBe(t api.Taker) bool {
	if len(t.File) != reach(t.Have) {
		return false
	}
	for _, row := range untold(t.Have, span{0, len(t.File)}) {
		for _, b := range t.File[row[0]:row[1]] {
			if b != 0 {
				return false
			}
		}
	}
	return true
}

func takerStageMayBe(t api.Taker) bool {
	switch t.Stage {
	case api.Going, api.Failed:
		return true
	case api.Over:
		return t.Known && hasAll(t)
	}
	return false
}

// hasAll: have all bytes come that a taker knows of?
func hasAll(t api.Taker) bool { return len(untold(t.Have, span{0, t.Size})) == 0 }

// hear a note that is for a taker.
func (t *taker) hear(n api.Note) {
	switch t.Stage {
	case api.Failed:
		if n.Kind == api.End {
			t.sendSeen()
			t.sendDone(api.ErrSum)
		}
	case api.Over:
		t.hearOver(n)
	case api.Going:
		t.hearGoing(n)
	}
}

// hearOver: all has come, but that may not be known.
func (t *taker) hearOver(n api.Note) {
	switch {
	case n.Kind == api.End:
		t.sendSeen()
		t.sendDone(api.OK)
	case n.Of == api.Done:
		t.Timer, t.Tries = 0, t.Limit
	}
}

func (t *taker) hearGoing(n api.Note) {
	t.Timer, t.Tries = 0, 0
	switch n.Kind {
	case api.Meta:
		if !t.Known {
			t.Known, t.Name, t.Size = true, n.Name, n.Size
		}
	case api.Piece:
		t.lay(n.At, n.Data)
	case api.End:
		t.sendSeen()
		if !t.Ended {
			t.Ended, t.Last, t.Sum = true, n.Size, n.Sum
		}
	}
	t.judge()
	if t.Stage == api.Going && n.Kind == api.End {
		t.sendGaps()
	}
}

// lay bytes into the file; those that came first stay.
func (t *taker) lay(at int, data []byte) {
	more := span{at, at + len(data)}
	if len(t.File) < more[1] {
		t.File = append(t.File, make([]byte, more[1]-len(t.File))...)
	}
	for _, row := range untold(t.Have, more) {
		copy(t.File[row[0]:row[1]], data[row[0]-at:])
	}
	t.Have = with(t.Have, more)
}

// judge whether the file is whole, or never will be.
func (t *taker) judge() {
	if !t.Known || !t.Ended || t.Size == t.Last && !hasAll(t.Taker) {
		return
	}
	if t.Size == t.Last && t.Sum == Sum(t.File[:t.Size]) {
		t.Stage = api.Over
		t.sendDone(api.OK)
		return
	}
	t.Stage = api.Failed
	t.sendDone(api.ErrSum)
}

func (t *taker) tick() {
	switch {
	case t.Stage == api.Going && t.Ended:
		if !t.waited() {
			return
		}
		if t.Tries == t.Limit {
			t.Stage = api.Failed
			return
		}
		t.Tries++
		t.sendGaps()
	case t.Stage == api.Over && t.Tries < t.Limit:
		if t.waited() {
			t.Tries++
			t.sendDone(api.OK)
		}
	}
}

// waited a tick more: is that long enough?
func (t *taker) waited() bool {
	t.Timer = (t.Timer + 1) % t.Patience
	return t.Timer == 0
}

func (t *taker) send(n api.Note) {
	n.ID = t.ID
	t.notes = append(t.notes, n)
}

func (t *taker) sendSeen() { t.send(api.Note{Kind: api.Seen, Of: api.End}) }

func (t *taker) sendDone(code api.Errno) { t.send(api.Note{Kind: api.Done, Code: code}) }

// sendGaps: what is missing, if something is.
func (t *taker) sendGaps() {
	if gaps := t.missing(); len(gaps) > 0 {
		t.send(api.Note{Kind: api.Gaps, Gaps: gaps})
	}
}

// missing: the Meta, if it has not come, and bytes; as much as a note tells.
func (t *taker) missing() []span {
	var out []span
	if !t.Known {
		out = append(out, span{})
	}
	out = append(out, untold(t.Have, span{0, t.Last})...)
	return slices.Clone(out[:min(len(out), api.MaxGaps)])
}
