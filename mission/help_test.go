package mission_test

import (
	"math"
	"reflect"
	"slices"
	"testing"

	"farhail/api"
	"farhail/command"
	"farhail/convol"
	"farhail/keys"
	"farhail/mission"
	"farhail/packet"
	"farhail/solomon"
	"farhail/stream"
)

// plan of the document's examples.
func plan() api.Plan {
	return api.Plan{
		Craft: 5, Size: 24, Depth: 1, Checks: 4, Rate: api.Half, Find: 2, Half: 100, Ahead: 8, Patience: 5, Pause: 3, Limit: 100,
		Names: []string{"temp", "mode"}, Inputs: 1,
		Text: "SEQUENCE cool LEVEL 2 LIMIT 50 NEEDS fan: SEND fan(1); UNTIL temp < 20 WITHIN 20 END; SEND fan(0); END; " +
			"SEQUENCE shut LEVEL 7 LIMIT 10: SEND off; mode := mode + 1; END;",
		Guard: api.Guard{Monitors: []api.Monitor{{Low: -50, High: 50, For: 3, Tier: 3}}, Most: 100, Window: 1000, Safe: "shut"},
		Words: 16, Scrub: 2, Every: 4, Most: 20, Piece: 8, Burst: 1, Wait: 6, Tries: 100,
	}
}

// planWith a change.
func planWith(change func(p *api.Plan)) api.Plan {
	p := plan()
	change(&p)
	return p
}

func key() api.Key { return api.Key{ID: 3, Words: []int{1, 2, 3, 4, 5, 6, 7, 8}, Top: -1} }

func ring() api.Ring { return api.Ring{Keys: []api.Key{key()}} }

// begun: a board of a plan.
func begun(t *testing.T, p api.Plan) api.Board {
	t.Helper()
	b, e := mission.Begin(p, ring())
	if e != api.OK {
		t.Fatal("Begin:", e, mission.Check(p))
	}
	return b
}

// seated: a desk of a plan.
func seated(t *testing.T, p api.Plan) api.Desk {
	t.Helper()
	d, e := mission.Sit(p, key())
	if e != api.OK {
		t.Fatal("Sit:", e, mission.Check(p))
	}
	return d
}

// same: are two values alike, but for lists without elements, which may be nil or not?
func same(a, b any) bool { return alike(reflect.ValueOf(a), reflect.ValueOf(b)) }

func alike(a, b reflect.Value) bool {
	switch a.Kind() {
	case reflect.Slice:
		if a.Len() != b.Len() {
			return false
		}
		for i := range a.Len() {
			if !alike(a.Index(i), b.Index(i)) {
				return false
			}
		}
		return true
	case reflect.Struct:
		for i := range a.NumField() {
			if !alike(a.Field(i), b.Field(i)) {
				return false
			}
		}
		return true
	}
	return a.Interface() == b.Interface()
}

// far: numbers that are not from least to most, some of them just not.
func far(least, most int) []int {
	return []int{least - 1, most + 1, math.MinInt, math.MaxInt, -1 << 60, 1 << 60}
}

// sealed: what is let in as a command by the key, if its counter is new.
func sealed(t *testing.T, k api.Key, counter int, body string) []byte {
	t.Helper()
	b, e := keys.Seal(k, counter, []byte(body))
	if e != api.OK {
		t.Fatal("Seal:", e)
	}
	return b
}

// ordered: the bytes of an order.
func ordered(t *testing.T, o api.Order) []byte {
	t.Helper()
	b, e := command.Encode(o)
	if e != api.OK {
		t.Fatal("Encode:", e)
	}
	return b
}

// told on board in a tick, as texts.
type told struct{ events, reports, notes []string }

// pilot flies a craft, and reads what it tells where that waits: down goes something else.
type pilot struct {
	*testing.T
	plan   api.Plan
	board  api.Board
	inputs []int
	sent   int // how many commands went up
	acts   []api.Said
}

func piloted(t *testing.T, p api.Plan) *pilot {
	t.Helper()
	return &pilot{T: t, plan: p, board: begun(t, p), inputs: make([]int, p.Inputs)}
}

// up: orders of these commands, behind those that went up.
func (c *pilot) up(bodies ...string) [][]byte {
	c.Helper()
	var l [][]byte
	for _, body := range bodies {
		data := sealed(c.T, key(), c.sent, body)
		l = append(l, ordered(c.T, api.Order{Craft: c.plan.Craft, Seq: c.sent % 256, Data: data}))
		c.sent++
	}
	return l
}

// tick with these commands.
func (c *pilot) tick(bodies ...string) told {
	c.Helper()
	return c.tickWith(c.up(bodies...))
}

func (c *pilot) tickWith(came [][]byte, hits ...api.Hit) told {
	c.Helper()
	c.board = aside(c.T, c.board)
	x := mission.Fly(c.plan, c.board, came, c.inputs, hits)
	if x.Code != api.OK {
		c.Fatal("Fly:", x.Code)
	}
	c.board, c.acts = x.Board, x.Acts
	return told{waiting(c.T, x.Board, 0), waiting(c.T, x.Board, 1), waiting(c.T, x.Board, 2)}
}

// saw: the events of a tick have to be these.
func (c *pilot) saw(got told, events ...string) {
	c.Helper()
	if !slices.Equal(got.events, events) {
		c.Errorf("events %q, not %q", got.events, events)
	}
}

// aside: nothing waits for the channels of a board, but so much for the last one, which is in turn, that nothing else goes down.
func aside(t *testing.T, b api.Board) api.Board {
	t.Helper()
	much, e := packet.Fill(api.MaxFrame * 2)
	if e != api.OK {
		t.Fatal(e)
	}
	queues := slices.Clone(b.Sender.Queues)
	for i := range queues {
		queues[i].Packets, queues[i].Gone = nil, 0
	}
	queues[api.MaxChannel].Packets = [][]byte{much}
	b.Sender.Queues, b.Sender.Turn = queues, api.MaxChannel
	return b
}

// waiting: the units that wait for a channel, of which nothing is gone.
func waiting(t *testing.T, b api.Board, channel int) (units []string) {
	t.Helper()
	var j api.Joined
	for i, p := range packetsOf(t, b, channel) {
		if i == 0 {
			j, _ = packet.Begin(p.Apid)
		}
		var unit []byte
		var lost bool
		var e api.Errno
		j, unit, lost, e = packet.Join(j, p)
		if lost || e != api.OK || p.Up || p.Second || p.Apid != []int{api.Events, api.Reports, api.Notes}[channel] || len(p.Data) > api.MaxMost {
			t.Errorf("packet %d of channel %d: %v lost %v %v", i, channel, p, lost, e)
		}
		if len(unit) > 0 {
			units = append(units, string(unit))
		}
	}
	return units
}

// packetsOf a channel, of which nothing is gone.
func packetsOf(t *testing.T, b api.Board, channel int) (l []api.Packet) {
	t.Helper()
	for _, x := range b.Sender.Queues[channel].Packets {
		p, n, e := packet.Decode(x)
		if e != api.OK || n != len(x) {
			t.Fatal("Decode:", e)
		}
		l = append(l, p)
	}
	return l
}

// onWay: the bits of a frame on its way down, by the document's words.
func onWay(t *testing.T, p api.Plan, b []byte) []byte {
	t.Helper()
	block, e := solomon.Weave(b, p.Depth, p.Checks)
	if e != api.OK {
		t.Fatal("Weave:", e)
	}
	symbols, e := convol.Spread(stream.Bits(block), p.Rate)
	if e != api.OK {
		t.Fatal("Spread:", e)
	}
	for len(symbols)%8 != 0 {
		symbols = append(symbols, 0)
	}
	data, _ := stream.Bytes(symbols)
	bits, e := stream.Frame(data)
	if e != api.OK {
		t.Fatal("Frame:", e)
	}
	return bits
}

// frameOf bits on their way down, of which none is wrong: each rate keeps enough symbols to try what they stand for.
func frameOf(t *testing.T, p api.Plan, bits []byte) []byte {
	t.Helper()
	data, e := stream.Bytes(bits[32:])
	if e != api.OK {
		t.Fatal("Bytes:", e)
	}
	symbols := stream.Bits(stream.Scramble(data))
	n := 8 * (p.Size + p.Depth*p.Checks)
	made, _ := convol.Spread(make([]byte, n), p.Rate)
	var soft []int
	for _, s := range symbols[:len(made)] {
		soft = append(soft, 14*int(s)-7)
	}
	got, cost, e := convol.Gather(soft, n, p.Rate)
	if e != api.OK || cost != 0 {
		t.Fatal("Gather:", cost, e)
	}
	block, _ := stream.Bytes(got)
	b, at, e := solomon.Unweave(block, p.Depth, p.Checks, nil)
	if e != api.OK || len(at) > 0 {
		t.Fatal("Unweave:", at, e)
	}
	return b
}
