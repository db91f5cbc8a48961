package mission

import (
	"slices"

	"farhail/api"
	"farhail/command"
	"farhail/convol"
	"farhail/deliver"
	"farhail/guard"
	"farhail/sequence"
	"farhail/solomon"
	"farhail/stream"
)

const (
	mostFind = 8

	// The name of each file: words of the memory.
	fileName = "mem"
)

// course is a plan that may be, with what it leads to: its book, how many bytes a woven frame has, and how many symbols.
type course struct {
	api.Plan
	book    api.Book
	block   int
	symbols int
}

// planned: the course of a plan, or what is wrong with it.
func planned(p api.Plan) (c course, f api.Fault) {
	defer func() {
		switch why := recover().(type) {
		case nil:
		case api.Fault:
			c, f = course{}, why
		default:
			panic(why)
		}
	}()
	return courseOf(p), api.Fault{}
}

// ask of a plan, by the number of what is asked: it gives up, unless that holds.
func ask(number int, holds bool, code api.Errno) {
	if !holds {
		panic(api.Fault{Code: code, At: number})
	}
}

// courseOf a plan. What is wrong with it gives up by a panic of an api.Fault.
func courseOf(p api.Plan) course {
	c := course{Plan: p}
	c.codeFrames()
	c.lookAtCommands()
	book, f := sequence.Load(p.Text, p.Names)
	ask(5, f.Code == api.OK, f.Code)
	c.book = book
	c.lookAtGuard()
	c.lookAtRest()
	return c
}

// codeFrames: an empty frame is sent on its way, to tell how long that makes it.
func (c *course) codeFrames() {
	ask(1, within(c.Craft, 0, api.MaxCraft), api.ErrRange)
	ask(1, within(c.Size, api.MinFrame, api.MaxFrame), api.ErrSize)
	block, e := solomon.Weave(make([]byte, c.Size), c.Depth, c.Checks)
	ask(2, e == api.OK, e)
	symbols, e := convol.Spread(stream.Bits(block), c.Rate)
	ask(3, e == api.OK, e)
	c.block, c.symbols = len(block), len(symbols)
	ask(3, c.wayBytes() <= api.MaxFrame, api.ErrSize)
	ask(3, within(c.Find, 0, mostFind), api.ErrRange)
}

func (c *course) lookAtCommands() {
	_, e := command.Guard(c.Craft, c.Half)
	ask(4, e == api.OK, api.ErrRange)
	_, e = command.Ready(c.Craft, c.Ahead, c.Patience, c.Pause, c.Limit)
	ask(4, e == api.OK, api.ErrRange)
	ask(4, c.Ahead <= c.Half, api.ErrRange)
}

func (c *course) lookAtGuard() {
	f := guard.Check(c.Guard)
	ask(6, f.Code == api.OK, f.Code)
	ask(6, within(c.Inputs, 0, len(c.Names)), api.ErrRange)
	for _, m := range c.Guard.Monitors {
		ask(6, m.Of < len(c.Names) && c.knownOrNone(m.Then), api.ErrName)
	}
	ask(6, c.knownOrNone(c.Guard.Safe), api.ErrName)
}

func (c *course) lookAtRest() {
	right := within(c.Words, 1, api.MaxMemory) && within(c.Scrub, 0, c.Words) &&
		within(c.Every, 1, api.MaxEvery) && within(c.Most, 1, api.MaxMost)
	ask(7, right, api.ErrRange)
	_, e := deliver.Offer(0, fileName, nil, c.Piece, c.Burst, c.Wait, c.Tries)
	ask(7, e == api.OK, api.ErrRange)
}

// knownOrNone: is this the name of a sequence, or nothing?
func (c *course) knownOrNone(name string) bool {
	return name == "" || slices.ContainsFunc(c.book.Seqs, func(s api.Seq) bool { return s.Name == name })
}

// low: may a sequence, by its place in the book, do nothing while the craft is safe?
func (c *course) low(seq int) bool { return c.book.Seqs[seq].Level < api.SafeLevel }
