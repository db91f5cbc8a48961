package mission_test

import (
	"fmt"
	"math"
	"slices"
	"strings"
	"testing"

	"farhail/api"
	"farhail/deliver"
	"farhail/frame"
	"farhail/mission"
	"farhail/packet"
)

// names of the tasks' sequences, for which their places stand.
func (c *pilot) tasks() (l []int) {
	for _, t := range c.board.Crew.Tasks {
		l = append(l, t.Places[0].Seq)
	}
	return l
}

// said: the acts of the last tick, as texts.
func (c *pilot) said() (l []string) {
	for _, a := range c.acts {
		l = append(l, fmt.Sprint(a.Seq, a.Name, a.Args))
	}
	return l
}

// TestActs: sequences see what was measured and what commands did in the same tick, and change the variables.
func TestActs(t *testing.T) {
	p := planWith(quietly)
	p.Text = "SEQUENCE a LEVEL 2 LIMIT 99: REPEAT 9: SEND x(temp, mode); mode := mode + 10; WAIT 1; END; END;"
	p.Guard.Safe = ""
	c := piloted(t, p)
	c.inputs[0] = 7
	c.tick("V\x01\x00\x00\x00\x05", "Sa")
	if got := c.said(); !slices.Equal(got, []string{"0x[7 5]"}) || c.board.Values[1] != 15 {
		t.Error(got, c.board.Values)
	}
	c.inputs[0] = -8
	c.tick()
	if got := c.said(); !slices.Equal(got, []string{"0x[-8 15]"}) || !slices.Equal(c.board.Values, []int{-8, 25}) {
		t.Error(got, c.board.Values)
	}
}

// TestAsked: sequences that are asked for are started behind the crew's tick, and go on in the next one; what cannot be started does nothing.
func TestAsked(t *testing.T) {
	p := planWith(quietly)
	p.Guard.Safe = ""
	p.Text = "SEQUENCE a LEVEL 1 LIMIT 9 NEEDS x: SEND a; WAIT 5; END; SEQUENCE b LEVEL 2 LIMIT 9 NEEDS x, y: SEND b; WAIT 5; END;" +
		"SEQUENCE c LEVEL 3 LIMIT 9 NEEDS y: SEND c; WAIT 5; END; SEQUENCE d LEVEL 9 LIMIT 9: START a; START a; START b; START a; START c; START a; START b; END;"
	c := piloted(t, p)
	c.saw(c.tick("Sd"), "DS")
	// a; not once more; b stops a; a is locked out; c stops b; a again; b is locked out.
	if !slices.Equal(c.tasks(), []int{2, 0}) || len(c.acts) != 0 {
		t.Error(c.tasks(), c.acts)
	}
	c.tick()
	if got := c.said(); !slices.Equal(got, []string{"2c[]", "0a[]"}) {
		t.Error(got)
	}
}

// TestAskedOften: very many may be asked for in a tick.
func TestAskedOften(t *testing.T) {
	p := planWith(quietly)
	p.Guard.Safe = ""
	p.Text = "SEQUENCE x LEVEL 1 LIMIT 9: WAIT 5; END;"
	for i := range 15 {
		p.Text += fmt.Sprintf("SEQUENCE s%d LEVEL 2 LIMIT 9: REPEAT 1000: REPEAT 45: START x; END; END; END;", i)
	}
	p.Text += strings.Repeat("# so that the text is long\n", 600)
	c := piloted(t, p)
	var bodies []string
	for i := range 15 {
		bodies = append(bodies, fmt.Sprintf("Ss%d", i))
	}
	c.tick(bodies...)
	if !slices.Equal(c.tasks(), []int{0}) {
		t.Error(c.tasks())
	}
}

// guarded: a plan with sequences of many levels, and monitors of all tiers.
func guarded() api.Plan {
	p := planWith(quietly)
	p.Names, p.Inputs = []string{"one", "two", "three", "four"}, 4
	p.Text = "SEQUENCE calm LEVEL 0 LIMIT 99: REPEAT 9: SEND calm; WAIT 5; END; END; SEQUENCE four LEVEL 4 LIMIT 99: REPEAT 9: SEND four; WAIT 5; END; END;" +
		"SEQUENCE five LEVEL 5 LIMIT 99: REPEAT 9: SEND five; WAIT 5; END; END;" +
		"SEQUENCE nine LEVEL 9 LIMIT 99: WAIT 1; START calm; START five; SEND nine; END;"
	p.Guard = api.Guard{Most: 3, Window: 5, Silence: 50, Monitors: []api.Monitor{
		{Of: 0, High: 9, For: 1, Tier: 1, Then: "calm"}, {Of: 1, High: 9, For: 2, Tier: 2, Then: "five"},
		{Of: 2, High: 9, For: 1, Tier: 3, Then: "four"}, {Of: 3, High: 9, For: 1, Tier: 3, Then: "nine"},
	}}
	return p
}

// TestAnswers: what trips is answered by its sequence, in the same tick, but goes on in the next.
func TestAnswers(t *testing.T) {
	c := piloted(t, guarded())
	c.inputs = []int{10, 10, 0, 0}
	c.saw(c.tick())
	if !slices.Equal(c.tasks(), []int{0}) || c.board.Vigil.Safe || len(c.acts) > 0 {
		t.Error(c.tasks(), c.acts)
	}
	c.saw(c.tick())
	if !slices.Equal(c.tasks(), []int{2, 0}) || c.board.Vigil.Safe {
		t.Error(c.tasks())
	}
}

// TestMadeSafe: by a monitor: what is low is taken out, what is high goes on; what the guard names is started, if it is not low.
func TestMadeSafe(t *testing.T) {
	c := piloted(t, guarded())
	c.tick("Scalm", "Sfour", "Sfive", "Snine")
	if !slices.Equal(c.tasks(), []int{3, 2, 1, 0}) {
		t.Error(c.tasks())
	}
	was := c.board.Crew.Tasks
	c.inputs[2] = 10
	c.saw(c.tick(), "S\x02")
	// In the tick in which it is made safe the low ones had their turn, and nine ended; calm is low, five is being done; four, which answers, is low.
	if !slices.Equal(c.tasks(), []int{2}) || !same(c.board.Crew.Tasks[0].Places, was[1].Places) || c.board.Vigil.Why != 2 {
		t.Error(c.tasks(), c.board.Vigil)
	}
	c.inputs[3] = 99
	c.saw(c.tick())
	if !slices.Equal(c.tasks(), []int{3, 2}) {
		t.Error(c.tasks())
	}
	// nine rests; then it asks for calm, which is low.
	c.saw(c.tick())
	c.saw(c.tick())
	if !slices.Equal(c.tasks(), []int{2}) || !slices.Equal(c.said(), []string{"3nine[]"}) {
		t.Error(c.tasks(), c.said())
	}
	c.saw(c.tick("Scalm", "Sfour", "Sfive", "Szz", "Snine"),
		refusal(api.ErrShut, "S"), refusal(api.ErrShut, "S"), refusal(api.ErrTwice, "S"), refusal(api.ErrName, "S"), "DS")
	// As long as something is wrong, nobody leaves; then it is left by a command of the same tick.
	c.saw(c.tick("L"), "DL")
	c.inputs = []int{0, 0, 0, 0}
	c.saw(c.tick())
	c.saw(c.tick("L", "Scalm"), "DL", refusal(api.ErrShut, "S"), "L")
	if c.board.Vigil.Safe || c.board.Vigil.Why != api.NoWhy {
		t.Error(c.board.Vigil)
	}
	c.saw(c.tick("Scalm"), "DS")
}

// TestLeaveIsShort: a leave counts in its own tick alone.
func TestLeaveIsShort(t *testing.T) {
	c := piloted(t, guarded())
	c.inputs[2] = 10
	c.saw(c.tick("L"), "DL", "S\x02")
	c.inputs[2] = 0
	c.saw(c.tick("Szz"), refusal(api.ErrName, "S"))
	if !c.board.Vigil.Safe {
		t.Error(c.board.Vigil)
	}
	c.saw(c.tick("L"), "DL", "L")
}

// TestWhys: why the craft was made safe is told in a byte.
func TestWhys(t *testing.T) {
	c := piloted(t, guarded())
	c.inputs[3] = -1
	c.saw(c.tick(), "S\x03")
	c = piloted(t, guarded())
	for i := range 49 {
		c.saw(c.tick())
		if c.board.Vigil.Quiet != i+1 {
			t.Error(c.board.Vigil.Quiet)
		}
	}
	c.saw(c.tick(), "S\xfe") // by silence: -2
	c = piloted(t, guarded())
	for range 2 {
		c.inputs[0] = 10
		c.saw(c.tick())
		c.inputs[0] = 0
		c.saw(c.tick())
	}
	c.inputs[0] = 10
	c.saw(c.tick(), "S\xfd") // by trips: -3
}

// TestSafeSequence: the guard's own sequence is started first, and one that is low not at all.
func TestSafeSequence(t *testing.T) {
	for safe, want := range map[string][]int{"five": {3, 2}, "nine": {3}, "four": {3}, "": {3}} {
		p := guarded()
		p.Guard.Safe = safe
		c := piloted(t, p)
		c.inputs[3] = 10
		c.saw(c.tick("Scalm"), "DS", "S\x03")
		if !slices.Equal(c.tasks(), want) {
			t.Errorf("%q: %v", safe, c.tasks())
		}
	}
}

// TestHeardKeepsAwake: whatever was accepted, the silence ends.
func TestHeardKeepsAwake(t *testing.T) {
	c := piloted(t, guarded())
	for i := range 200 {
		if i%40 == 0 {
			c.saw(c.tick("Szz"), refusal(api.ErrName, "S"))
			continue
		}
		c.saw(c.tick())
	}
}

// TestReports: every so many ticks, of all that stands behind the tick.
func TestReports(t *testing.T) {
	for _, every := range []int{1, 3, 4, 1000} {
		c := piloted(t, planWith(func(p *api.Plan) { p.Every = every }))
		for now := range 20 {
			c.inputs[0] = now*20 - 70
			got := c.tick("V\x01" + string([]byte{0xff, 0xff, 0xff, byte(now)}))
			var want []string
			if now%every == 0 {
				temp := uint32(int32(c.inputs[0]))
				mode := uint32(int32(c.board.Values[1]))
				safe := byte(0)
				if c.board.Vigil.Safe {
					safe = 1
				}
				want = []string{string([]byte{0, 0, 0, byte(now), safe, byte(temp >> 24), byte(temp >> 16), byte(temp >> 8), byte(temp),
					byte(mode >> 24), byte(mode >> 16), byte(mode >> 8), byte(mode)})}
			}
			if !slices.Equal(got.reports, want) || c.board.Now != now+1 {
				t.Errorf("every %d, tick %d: %x, not %x", every, now, got.reports, want)
			}
		}
		if !c.board.Vigil.Safe {
			t.Error("the craft was never made safe")
		}
	}
}

// TestReportWide: numbers of four bytes, at their ends.
func TestReportWide(t *testing.T) {
	c := piloted(t, plan())
	c.board.Now = 999996
	c.board.Values[1] = math.MinInt32
	c.inputs[0] = math.MaxInt32
	got := c.tick()
	if !slices.Equal(got.reports, []string{"\x00\x0f\x42\x3c\x00\x7f\xff\xff\xff\x80\x00\x00\x00"}) {
		t.Errorf("%x", got.reports)
	}
}

// TestFiles: each giver has its tick, in order; what goes is told.
func TestFiles(t *testing.T) {
	p := planWith(quietly)
	p.Burst, p.Wait, p.Tries = 3, 2, 3
	c := piloted(t, p)
	c.tick("F\x00\x09\x00\x00\x00\x09", "F\x01\x01\x00\x03\x00\x02")
	givers := c.board.Givers
	failed := 0
	for range 40 {
		var want, events []string
		var left []api.Giver
		for _, g := range givers {
			next, notes, _ := deliver.Give(g)
			for _, n := range notes {
				b, _ := deliver.Encode(n)
				want = append(want, string(b))
			}
			if next.Stage == api.Failed {
				failed++
				events = append(events, "B"+string([]byte{byte(next.ID >> 8), byte(next.ID)}))
				continue
			}
			left = append(left, next)
		}
		got := c.tick()
		c.saw(got, events...)
		givers = left
		if !slices.Equal(got.notes, want) || !same(c.board.Givers, givers) {
			t.Errorf("%q, not %q", got.notes, want)
		}
	}
	if failed != 2 {
		t.Error(failed, "failed")
	}
}

// TestCuts: units in packets of so many bytes, numbered on and on.
func TestCuts(t *testing.T) {
	for _, most := range []int{1, 2, 3, 7, 12, 13, 14, 1000} {
		p := planWith(func(p *api.Plan) { p.Most, p.Every = most, 1 })
		c := piloted(t, p)
		counts := []int{api.MaxCount - 5, api.MaxCount, 0}
		c.board.Counts = slices.Clone(counts)
		for range 10 {
			got := c.tick("R\x00\x01", "Szz")
			c.saw(got, "R\x00\x01\x00\x00\x00\x00", "DR", "X\x0aS")
			for channel, apid := range []int{api.Events, api.Reports} {
				for _, x := range packetsOf(t, c.board, channel) {
					if x.Count != counts[apid-1] || x.Apid != apid || len(x.Data) > most {
						t.Errorf("most %d: %v, the count should be %d", most, x, counts[apid-1])
					}
					counts[apid-1] = (counts[apid-1] + 1) % (api.MaxCount + 1)
				}
			}
			if !slices.Equal(c.board.Counts, counts) {
				t.Errorf("most %d: %v, not %v", most, c.board.Counts, counts)
			}
		}
	}
}

// TestNoRoom: what finds none is lost, in part, too; the number goes on.
func TestNoRoom(t *testing.T) {
	p := planWith(func(p *api.Plan) { p.Most, p.Every = 5, 1 })
	for waits := 195; waits <= api.MaxWaiting; waits++ {
		c := piloted(t, p)
		b := aside(t, c.board)
		for channel := range 2 {
			b.Sender.Queues[channel].Packets = slices.Repeat([][]byte{somePacket()}, waits)
		}
		x := mission.Fly(p, b, c.up("R\x00\x01"), c.inputs, nil)
		if x.Code != api.OK || !slices.Equal(x.Board.Counts, []int{3, 3, 0}) {
			t.Fatal(x.Code, x.Board.Counts)
		}
		room := api.MaxWaiting - waits
		events := packetsOf(t, x.Board, 0)[waits:]
		reports := packetsOf(t, x.Board, 1)[waits:]
		if len(events) != min(room, 3) || len(reports) != min(room, 3) {
			t.Error(waits, len(events), len(reports))
		}
		for i, e := range events {
			if e.Count != i || e.Part != []api.Part{api.First, api.Last, api.Whole}[i] {
				t.Error(waits, events)
			}
		}
		// What was told on another channel is not in the way.
		if len(packetsOf(t, x.Board, 2)) > 0 {
			t.Error("a note")
		}
	}
}

// TestMuch: far more than there is room for may be told in a tick.
func TestMuch(t *testing.T) {
	p := planWith(quietly)
	p.Words, p.Most, p.Piece, p.Burst = api.MaxMemory, 1, api.MaxPiece, api.MaxBurst
	c := piloted(t, p)
	x := mission.Fly(p, aside(t, c.board), c.up("F\x00\x01\x00\x00\x10\x00", "F\x00\x02\x00\x00\x10\x00", "F\x00\x03\x00\x00\x10\x00"), c.inputs, nil)
	// A Meta of 10 bytes, 16 Pieces of 7 bytes more than their data, an End of 11 bytes: of each byte a packet.
	told := 3 * (10 + 16*7 + 4*api.MaxMemory + 11)
	if x.Code != api.OK || x.Board.Counts[2] != told%(api.MaxCount+1) {
		t.Error(x.Code, x.Board.Counts, told)
	}
	l := packetsOf(t, x.Board, 2)
	if len(l) != api.MaxWaiting || l[0].Count != 0 || l[api.MaxWaiting-1].Count != api.MaxWaiting-1 {
		t.Error(len(l), l[0].Count)
	}
}

// TestGoesDown: each tick the sender's next frame, coded by the plan; channels have their turns.
func TestGoesDown(t *testing.T) {
	for _, rate := range []api.Rate{api.Half, api.Thirds, api.Fourth, api.Sixths, api.Eighth} {
		for _, depth := range []int{1, 2, 3} {
			p := planWith(func(p *api.Plan) { p.Rate, p.Depth, p.Every, p.Checks = rate, depth, 1, 1+depth })
			c := piloted(t, p)
			l, _ := frame.Listen(p.Craft, p.Size)
			var channels []int
			for range 12 {
				x := mission.Fly(p, c.board, c.up("F\x00\x07\x00\x02\x00\x03"), c.inputs, nil)
				if x.Code != api.OK {
					t.Fatal(x.Code)
				}
				b := frameOf(t, p, x.Bits)
				if !slices.Equal(x.Bits, onWay(t, p, b)) {
					t.Fatal("these are not the bits of the frame")
				}
				h, _, _, e := frame.Unpack(b)
				if e != api.OK || len(b) != p.Size || h.Craft != p.Craft || h.Master != c.board.Sender.Master || x.Board.Sender.Master != h.Master+1 {
					t.Fatal(h, e)
				}
				channels = append(channels, h.Channel)
				if l, _, _, _, e = frame.Hear(l, b); e != api.OK {
					t.Fatal(e)
				}
				c.board = x.Board
			}
			if !slices.Equal(channels, []int{0, 1, 2, 0, 1, 2, 0, 1, 2, 0, 1, 2}) {
				t.Error(channels)
			}
		}
	}
}

// TestOnItsWay: how many bits a frame has.
func TestOnItsWay(t *testing.T) {
	for _, x := range []struct {
		size, depth, checks int
		rate                api.Rate
		bits                int
	}{
		{20, 1, 4, api.Half, 32 + 400}, {24, 1, 4, api.Half, 496},
		{20, 1, 4, api.Thirds, 32 + 304}, // 198 bits, 297 symbols
		{20, 1, 4, api.Fourth, 32 + 264}, // 264 symbols
		{20, 1, 4, api.Sixths, 32 + 240}, // 198 bits, 238 symbols
		{20, 1, 4, api.Eighth, 32 + 232}, // 198 bits, 227 symbols
		{20, 2, 4, api.Half, 32 + 464},   // 28 bytes, 230 bits, 460 symbols
	} {
		p := plan()
		p.Size, p.Depth, p.Checks, p.Rate = x.size, x.depth, x.checks, x.rate
		f := mission.Fly(p, begun(t, p), nil, []int{0}, nil)
		if f.Code != api.OK || len(f.Bits) != x.bits {
			t.Errorf("%v: %d bits", x, len(f.Bits))
		}
		if slices.Max(f.Bits) > 1 {
			t.Error("not bits")
		}
	}
}

// TestNothingToTell: a frame that fills goes down.
func TestNothingToTell(t *testing.T) {
	p := planWith(func(p *api.Plan) { p.Every = 1000 })
	b := begun(t, p)
	b.Now = 1
	x := mission.Fly(p, b, nil, []int{0}, nil)
	h, _, _, e := frame.Unpack(frameOf(t, p, x.Bits))
	if e != api.OK || h.Channel != api.FillChannel || h.First != api.OnlyFill {
		t.Error(h, e)
	}
}

// TestOthersWait: packets of other channels go down as they are.
func TestOthersWait(t *testing.T) {
	p := planWith(quietly)
	b := begun(t, p)
	b.Now = 1
	b.Sender.Queues[4].Packets = [][]byte{somePacket()}
	x := mission.Fly(p, b, nil, []int{0}, nil)
	h, data, _, _ := frame.Unpack(frameOf(t, p, x.Bits))
	got, _, e := packet.Decode(data)
	if e != api.OK || h.Channel != 4 || got.Apid != 7 {
		t.Error(h, got, e)
	}
}
