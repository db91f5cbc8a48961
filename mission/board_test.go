package mission_test

import (
	"math"
	"slices"
	"testing"

	"farhail/api"
	"farhail/deliver"
	"farhail/frame"
	"farhail/guard"
	"farhail/memory"
	"farhail/mission"
	"farhail/packet"
	"farhail/sequence"
)

func TestBegin(t *testing.T) {
	p := plan()
	v, _ := guard.Begin(p.Guard)
	s, _ := frame.Open(p.Craft, p.Size)
	opened := api.Key{ID: 9, Words: make([]int, 8), Top: 5, Seen: 3}
	for _, r := range []api.Ring{{}, ring(), {Keys: []api.Key{key(), opened}}} {
		b, e := mission.Begin(p, r)
		want := api.Board{
			Gate: api.Gate{Craft: 5, Half: 100}, Ring: r, Values: []int{0, 0}, Vigil: v, Sender: s,
			Counts: []int{0, 0, 0}, Codes: make([]int, 16),
		}
		if e != api.OK || !same(b, want) {
			t.Errorf("%v: %+v %v", r, b, e)
		}
	}
	wrong := []api.Ring{
		{Keys: []api.Key{key(), key()}}, {Keys: []api.Key{{}}}, {Keys: make([]api.Key, 9)},
		{Keys: []api.Key{{ID: 256, Words: make([]int, 8), Top: -1}}}, {Keys: []api.Key{{Words: make([]int, 8), Top: -2}}},
	}
	for _, r := range wrong {
		if b, e := mission.Begin(p, r); e != api.ErrState || !same(b, api.Board{}) {
			t.Errorf("%v: %+v %v", r, b, e)
		}
	}
	if _, e := mission.Begin(api.Plan{}, wrong[0]); e != api.ErrPlan {
		t.Error(e)
	}
}

// giver of a file that may be.
func giver(t *testing.T, id int) api.Giver {
	t.Helper()
	g, e := deliver.Offer(id, "any", []byte{1, 2, 3}, 2, 1, 5, 5)
	if e != api.OK {
		t.Fatal(e)
	}
	return g
}

// crewOf these sequences.
func crewOf(t *testing.T, p api.Plan, names ...string) (c api.Crew) {
	t.Helper()
	for _, name := range names {
		var e api.Errno
		if c, _, e = sequence.Start(p.Text, p.Names, c, name); e != api.OK {
			t.Fatal(name, e)
		}
	}
	return c
}

// somePacket that may be.
func somePacket() []byte {
	b, _ := packet.Encode(api.Packet{Apid: 7, Part: api.Whole, Data: []byte{1}})
	return b
}

// boardWith a change.
func boardWith(t *testing.T, change func(b *api.Board)) api.Board {
	t.Helper()
	b := begun(t, plan())
	change(&b)
	return b
}

// TestBoardsThatMayBe: at all the edges a tick is flown.
func TestBoardsThatMayBe(t *testing.T) {
	p := plan()
	stages := func(s api.Stage) api.Giver {
		g := giver(t, 9)
		g.Stage, g.First, g.At = s, false, 3
		return g
	}
	changes := []func(b *api.Board){
		func(b *api.Board) {},
		func(b *api.Board) { b.Now = api.MaxTime - 1 },
		func(b *api.Board) {
			b.Gate.Next, b.Gate.Count, b.Gate.Shut, b.Gate.Wait, b.Gate.Again = 255, 3, true, true, true
		},
		func(b *api.Board) { b.Ring = api.Ring{} },
		func(b *api.Board) { b.Ring.Keys[0].Top, b.Ring.Keys[0].Seen = api.MaxCounter, 1<<62-1 },
		func(b *api.Board) { b.Values = []int{math.MinInt32, math.MaxInt32} },
		func(b *api.Board) { b.Crew = crewOf(t, p, "cool", "shut") },
		func(b *api.Board) { b.Vigil.Safe, b.Vigil.Why = true, api.ByTrips },
		func(b *api.Board) { b.Vigil.Safe, b.Vigil.Why, b.Crew = true, 0, crewOf(t, p, "shut") },
		func(b *api.Board) { b.Sender.Master, b.Sender.Turn = 255, api.MaxChannel },
		func(b *api.Board) { b.Sender.Queues[3].Packets = slices.Repeat([][]byte{somePacket()}, api.MaxWaiting) },
		func(b *api.Board) { b.Counts = []int{api.MaxCount, api.MaxCount, api.MaxCount} },
		func(b *api.Board) { b.Codes[0], b.Codes[15] = 1<<39-1, 1<<39-1 },
		func(b *api.Board) { b.Next = 15 },
		func(b *api.Board) { b.Givers = []api.Giver{giver(t, 1), giver(t, 0), giver(t, 65535), giver(t, 2)} },
		func(b *api.Board) { b.Givers = []api.Giver{stages(api.Asking)} },
		func(b *api.Board) { b.Givers = []api.Giver{stages(api.Open)} },
	}
	for i, change := range changes {
		if x := mission.Fly(p, boardWith(t, change), nil, []int{0}, nil); x.Code != api.OK {
			t.Errorf("change %d: %v", i, x.Code)
		}
	}
}

// wrongBoards: changes by which a board may not be.
func wrongBoards(t *testing.T) []func(b *api.Board) {
	p := plan()
	l := []func(b *api.Board){
		func(b *api.Board) { *b = api.Board{} },
		func(b *api.Board) { b.Gate.Craft = 4 },
		func(b *api.Board) { b.Gate.Half = 99 },
		func(b *api.Board) { b.Gate.Next = 256 },
		func(b *api.Board) { b.Gate.Count = 4 },
		func(b *api.Board) { b.Ring.Keys = append(b.Ring.Keys, key()) },
		func(b *api.Board) { b.Ring.Keys[0].Words = b.Ring.Keys[0].Words[:7] },
		func(b *api.Board) { b.Ring.Keys[0].Seen = 1 },
		func(b *api.Board) { b.Values = b.Values[:1] },
		func(b *api.Board) { b.Values = append(b.Values, 0) },
		func(b *api.Board) { b.Values = nil },
		func(b *api.Board) { b.Crew.Tasks = []api.Task{{}} },
		func(b *api.Board) { b.Crew.Tasks = []api.Task{{Places: []api.Place{{Seq: 2}}}} },
		func(b *api.Board) { b.Crew.Tasks = []api.Task{{Places: []api.Place{{Seq: -1}}}} },
		func(b *api.Board) { b.Crew = crewOf(t, p, "cool", "shut"); slices.Reverse(b.Crew.Tasks) },
		func(b *api.Board) { b.Vigil.Safe, b.Vigil.Why, b.Crew = true, 0, crewOf(t, p, "cool") },
		func(b *api.Board) { b.Vigil.Safe, b.Vigil.Why, b.Crew = true, 0, crewOf(t, p, "shut", "cool") },
		func(b *api.Board) { b.Vigil.Why = 0 },
		func(b *api.Board) { b.Vigil.Safe = true },
		func(b *api.Board) { b.Vigil.Bad = nil },
		func(b *api.Board) { b.Vigil.Quiet = 1 },
		func(b *api.Board) { b.Sender.Craft = 4 },
		func(b *api.Board) { b.Sender.Size = 25 },
		func(b *api.Board) { b.Sender.Master = 256 },
		func(b *api.Board) { b.Sender.Turn = 7 },
		func(b *api.Board) { b.Sender.Queues = b.Sender.Queues[:6] },
		func(b *api.Board) { b.Sender.Queues[2].Gone = 1 },
		func(b *api.Board) { b.Sender.Queues[6].Packets = [][]byte{{1}} },
		func(b *api.Board) {
			b.Sender.Queues[0].Packets = slices.Repeat([][]byte{somePacket()}, api.MaxWaiting+1)
		},
		func(b *api.Board) { b.Counts = make([]int, 2) },
		func(b *api.Board) { b.Counts = make([]int, 4) },
		func(b *api.Board) { b.Codes = make([]int, 15) },
		func(b *api.Board) { b.Codes = make([]int, 17) },
		func(b *api.Board) { b.Givers = []api.Giver{{}} },
		func(b *api.Board) { b.Givers = []api.Giver{giver(t, 1), giver(t, 2), giver(t, 1)} },
		func(b *api.Board) {
			b.Givers = []api.Giver{giver(t, 1), giver(t, 2), giver(t, 3), giver(t, 4), giver(t, 5)}
		},
		func(b *api.Board) { b.Givers = []api.Giver{giver(t, 1)}; b.Givers[0].At = 4 },
	}
	for _, s := range []api.Stage{api.Over, api.Failed, -1, 5} {
		l = append(l, func(b *api.Board) {
			g := giver(t, 1)
			g.Stage, g.First, g.At = s, false, 3
			b.Givers = []api.Giver{giver(t, 0), g}
		})
	}
	add := func(of func(b *api.Board) *int, least, most int) {
		for _, n := range far(least, most) {
			l = append(l, func(b *api.Board) { *of(b) = n })
		}
	}
	add(func(b *api.Board) *int { return &b.Now }, 0, api.MaxTime)
	add(func(b *api.Board) *int { return &b.Next }, 0, 15)
	for i := range 3 {
		add(func(b *api.Board) *int { return &b.Counts[i] }, 0, api.MaxCount)
	}
	for _, i := range []int{0, 7, 15} {
		add(func(b *api.Board) *int { return &b.Codes[i] }, 0, 1<<39-1)
	}
	for i := range 2 {
		add(func(b *api.Board) *int { return &b.Values[i] }, math.MinInt32, math.MaxInt32)
	}
	return l
}

func TestBoardsThatMayNotBe(t *testing.T) {
	for i, change := range wrongBoards(t) {
		if x := mission.Fly(plan(), boardWith(t, change), nil, []int{0}, nil); !same(x, api.Flown{Code: api.ErrState}) {
			t.Errorf("change %d: %v %v", i, x.Code, x.Board)
		}
	}
}

// TestFlyRefuses: inputs that may not be; the end of time, behind all else.
func TestFlyRefuses(t *testing.T) {
	late := func(b *api.Board) { b.Now = api.MaxTime }
	refused := func(b api.Board, inputs []int, want api.Errno) {
		t.Helper()
		if x := mission.Fly(plan(), b, nil, inputs, nil); !same(x, api.Flown{Code: want}) {
			t.Errorf("%v: %v, not %v", inputs, x.Code, want)
		}
	}
	for _, b := range []api.Board{begun(t, plan()), boardWith(t, late)} {
		refused(b, nil, api.ErrState)
		refused(b, []int{1, 2}, api.ErrState)
		for _, n := range far(math.MinInt32, math.MaxInt32) {
			refused(b, []int{n}, api.ErrState)
		}
	}
	for _, n := range []int{0, math.MinInt32, math.MaxInt32} {
		refused(boardWith(t, late), []int{n}, api.ErrEnd)
		if x := mission.Fly(plan(), begun(t, plan()), nil, []int{n}, nil); x.Code != api.OK || x.Board.Values[0] != n {
			t.Error(n, x.Code, x.Board.Values)
		}
	}
	refused(boardWith(t, func(b *api.Board) { late(b); b.Next = -1 }), []int{0}, api.ErrState)
	last := mission.Fly(plan(), boardWith(t, func(b *api.Board) { b.Now = api.MaxTime - 1 }), nil, []int{0}, nil)
	if last.Code != api.OK || last.Board.Now != api.MaxTime {
		t.Error(last.Code, last.Board.Now)
	}
	refused(last.Board, []int{0}, api.ErrEnd)
}

// TestHits: a particle turns its bit, or meets none.
func TestHits(t *testing.T) {
	p := planWith(func(p *api.Plan) { p.Scrub = 0 })
	c := piloted(t, p)
	nowhere := []api.Hit{{Word: 16, Bit: 0}, {Word: -1, Bit: 0}, {Word: 0, Bit: 39}, {Word: 0, Bit: -1}}
	for _, n := range far(0, 15) {
		nowhere = append(nowhere, api.Hit{Word: n}, api.Hit{Bit: n<<8 + 64})
	}
	c.tickWith(nil, nowhere...)
	if !same(c.board.Codes, make([]int, 16)) {
		t.Error(c.board.Codes)
	}
	c.tickWith(nil, api.Hit{Word: 0, Bit: 0}, api.Hit{Word: 15, Bit: 38}, api.Hit{Word: 3, Bit: 5}, api.Hit{Word: 3, Bit: 6}, api.Hit{Word: 9, Bit: 9}, api.Hit{Word: 9, Bit: 9})
	want := make([]int, 16)
	want[0], want[15], want[3] = 1, 1<<38, 3<<5
	if !same(c.board.Codes, want) {
		t.Error(c.board.Codes)
	}
}

// TestScrub: so many words a tick, round and round; what is wrong by a bit is mended, of what is lost is told.
func TestScrub(t *testing.T) {
	for _, scrub := range []int{0, 1, 3, 7, 16} {
		c := piloted(t, planWith(func(p *api.Plan) { p.Scrub, p.Every = scrub, 1000 }))
		right := make([]int, 16)
		for i := range right {
			right[i], _ = memory.Code(i * 0x1234567)
		}
		next := 0
		for tick := range 40 {
			c.board.Codes = slices.Clone(right)
			c.board.Codes[2] ^= 1 << (tick % 39)
			c.board.Codes[12] ^= 1
			c.board.Codes[5] ^= 3
			c.board.Codes[15] ^= 1<<38 | 1<<(tick%38)
			want := slices.Clone(c.board.Codes)
			var events []string
			for range scrub {
				switch next {
				case 5, 15:
					events = append(events, "M\x00"+string(rune(next)))
				default:
					want[next] = right[next]
				}
				next = (next + 1) % 16
			}
			c.saw(c.tick(), events...)
			if !same(c.board.Codes, want) || c.board.Next != next {
				t.Fatalf("scrub %d, tick %d: %x, not %x; next %d", scrub, tick, c.board.Codes, want, c.board.Next)
			}
		}
	}
}

// TestScrubHighPlace: a place has two bytes.
func TestScrubHighPlace(t *testing.T) {
	c := piloted(t, planWith(func(p *api.Plan) { p.Words, p.Scrub = 4096, 1 }))
	c.board.Next, c.board.Codes[4095] = 4095, 3
	c.saw(c.tick(), "M\x0f\xff")
	if c.board.Next != 0 {
		t.Error(c.board.Next)
	}
}

// TestHitThenScrubbed: in one tick a hit comes ahead of the scrub, and commands between both.
func TestHitThenScrubbed(t *testing.T) {
	c := piloted(t, plan())
	got := c.tickWith(c.up("R\x00\x00", "R\x00\x01"), api.Hit{Bit: 4}, api.Hit{Word: 1, Bit: 4}, api.Hit{Word: 1, Bit: 5})
	c.saw(got, "R\x00\x00\x00\x00\x00\x00", "DR", "X\x12R", "M\x00\x01")
	if c.board.Codes[0] != 0 || c.board.Codes[1] != 3<<4 {
		t.Error(c.board.Codes)
	}
}
