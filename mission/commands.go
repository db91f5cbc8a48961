package mission

import (
	"farhail/api"
	"farhail/deliver"
	"farhail/memory"
)

// How many bytes the numbers of commands and events have.
const (
	smallBytes  = 1
	idBytes     = 2
	placeBytes  = 2
	numberBytes = 4
)

// doing a command, of which the bytes behind its letter are handed in: how that was refused.
type doing func(c *craft, rest []byte) api.Errno

// commands by their letters.
func commands() map[byte]doing {
	return map[byte]doing{
		'S': (*craft).startNamed,
		'V': counted((*craft).setVariable, smallBytes, numberBytes),
		'L': counted((*craft).mayLeave),
		'W': counted((*craft).storeWord, placeBytes, numberBytes),
		'R': counted((*craft).tellWord, placeBytes),
		'F': counted((*craft).offerWords, idBytes, placeBytes, placeBytes),
		'N': (*craft).takeNote,
	}
}

// counted: a command whose letter is followed by numbers of so many bytes each, and nothing else.
func counted(do func(c *craft, n []int) api.Errno, widths ...int) doing {
	return func(c *craft, rest []byte) api.Errno {
		n, right := numbers(rest, widths)
		if !right {
			return api.ErrForm
		}
		return do(c, n)
	}
}

// obey a command that was let in, and tell how that went. (None is let in without bytes.)
func (c *craft) obey(body []byte) {
	e := api.ErrForm
	if do, known := commands()[body[0]]; known {
		e = do(c, body[1:])
	}
	if e == api.OK {
		c.tell(api.Events, 'D', body[0])
	} else {
		c.tell(api.Events, 'X', byte(e), body[0])
	}
}

func (c *craft) startNamed(name []byte) api.Errno { return c.start(string(name)) }

// setVariable: its place, its value.
func (c *craft) setVariable(n []int) api.Errno {
	if n[0] >= len(c.Values) {
		return api.ErrRange
	}
	c.Values[n[0]] = int(int32(n[1]))
	return api.OK
}

func (c *craft) mayLeave([]int) api.Errno {
	c.leave = true
	return api.OK
}

// storeWord: its place, what it is.
func (c *craft) storeWord(n []int) api.Errno {
	if !c.hasWord(n[0]) {
		return api.ErrRange
	}
	c.Codes[n[0]], _ = memory.Code(n[1])
	return api.OK
}

// tellWord: its place.
func (c *craft) tellWord(n []int) api.Errno {
	if !c.hasWord(n[0]) {
		return api.ErrRange
	}
	word, e := c.word(n[0])
	if e != api.OK {
		return e
	}
	unit := put([]byte{'R'}, placeBytes, n[0])
	c.tell(api.Events, put(unit, numberBytes, word)...)
	return api.OK
}

// offerWords: the ID of a file, the place of its first word, how many words it has.
func (c *craft) offerWords(n []int) api.Errno {
	id, first, words := n[0], n[1], n[2]
	switch {
	case place(c.Givers, id, giverID) >= 0:
		return api.ErrTwice
	case len(c.Givers) == api.MaxFiles:
		return api.ErrFull
	case first+words > c.plan.Words:
		return api.ErrRange
	}
	var file []byte
	for i := range words {
		word, e := c.word(first + i)
		if e != api.OK {
			return e
		}
		file = put(file, numberBytes, word)
	}
	p := c.plan
	g, e := deliver.Offer(id, fileName, file, p.Piece, p.Burst, p.Wait, p.Tries)
	if e != api.OK {
		return e
	}
	c.Givers = append(c.Givers, g)
	return api.OK
}

// takeNote: it comes to the giver of its file.
func (c *craft) takeNote(b []byte) api.Errno {
	n, e := deliver.Decode(b)
	if e != api.OK {
		return e
	}
	at := place(c.Givers, n.ID, giverID)
	if at < 0 {
		return api.ErrName
	}
	g, notes, e := deliver.Reply(c.Givers[at], n)
	if e != api.OK {
		return e
	}
	c.Givers[at] = g
	c.tellNotes(notes)
	return api.OK
}
