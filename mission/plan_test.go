package mission_test

import (
	"math"
	"slices"
	"strings"
	"testing"

	"farhail/api"
	"farhail/mission"
)

// faulty: is just this wrong with a plan, and so with all that it is handed to?
func faulty(t *testing.T, what string, p api.Plan, code api.Errno, at int) {
	t.Helper()
	if f := mission.Check(p); f != (api.Fault{Code: code, At: at}) {
		t.Errorf("%s: %v, not %v at %d", what, f, code, at)
	}
	if code == api.OK {
		return
	}
	b, e := mission.Begin(p, ring())
	if e != api.ErrPlan || !same(b, api.Board{}) {
		t.Errorf("%s: Begin: %v", what, e)
	}
	d, e := mission.Sit(p, key())
	if e != api.ErrPlan || !same(d, api.Desk{}) {
		t.Errorf("%s: Sit: %v", what, e)
	}
	if d, e = mission.Order(p, seated(t, plan()), []byte("L")); e != api.ErrPlan || !same(d, api.Desk{}) {
		t.Errorf("%s: Order: %v", what, e)
	}
	if x := mission.Fly(p, begun(t, plan()), nil, []int{0}, nil); !same(x, api.Flown{Code: api.ErrPlan}) {
		t.Errorf("%s: Fly: %v", what, x.Code)
	}
	if x := mission.Hear(p, seated(t, plan()), nil); !same(x, api.Sat{Code: api.ErrPlan}) {
		t.Errorf("%s: Hear: %v", what, x.Code)
	}
}

// bound of a plan's number, and what is told beyond it.
type bound struct {
	name        string
	of          func(p *api.Plan) *int
	least, most int
	code        api.Errno
	at          int
}

// bounds of the numbers that hang on nothing else in the example.
func bounds() []bound {
	return []bound{
		{"Craft", func(p *api.Plan) *int { return &p.Craft }, 0, api.MaxCraft, api.ErrRange, 1},
		{"Checks", func(p *api.Plan) *int { return &p.Checks }, 1, api.MaxChecks, api.ErrSize, 2},
		{"Find", func(p *api.Plan) *int { return &p.Find }, 0, 8, api.ErrRange, 3},
		{"Half", func(p *api.Plan) *int { return &p.Half }, 8, 127, api.ErrRange, 4},
		{"Ahead", func(p *api.Plan) *int { return &p.Ahead }, 1, 100, api.ErrRange, 4},
		{"Patience", func(p *api.Plan) *int { return &p.Patience }, 1, api.MaxWait, api.ErrRange, 4},
		{"Pause", func(p *api.Plan) *int { return &p.Pause }, 0, api.MaxWait, api.ErrRange, 4},
		{"Limit", func(p *api.Plan) *int { return &p.Limit }, 1, api.MaxTries, api.ErrRange, 4},
		{"Silence", func(p *api.Plan) *int { return &p.Guard.Silence }, 0, api.MaxSilence, api.ErrRange, 6},
		{"Inputs", func(p *api.Plan) *int { return &p.Inputs }, 0, 2, api.ErrRange, 6},
		{"Words", func(p *api.Plan) *int { return &p.Words }, 2, api.MaxMemory, api.ErrRange, 7},
		{"Scrub", func(p *api.Plan) *int { return &p.Scrub }, 0, 16, api.ErrRange, 7},
		{"Every", func(p *api.Plan) *int { return &p.Every }, 1, api.MaxEvery, api.ErrRange, 7},
		{"Most", func(p *api.Plan) *int { return &p.Most }, 1, api.MaxMost, api.ErrRange, 7},
		{"Piece", func(p *api.Plan) *int { return &p.Piece }, 1, api.MaxPiece, api.ErrRange, 7},
		{"Burst", func(p *api.Plan) *int { return &p.Burst }, 1, api.MaxBurst, api.ErrRange, 7},
		{"Wait", func(p *api.Plan) *int { return &p.Wait }, 1, api.MaxWait, api.ErrRange, 7},
		{"Tries", func(p *api.Plan) *int { return &p.Tries }, 1, api.MaxTries, api.ErrRange, 7},
	}
}

func TestPlanNumbers(t *testing.T) {
	faulty(t, "the example", plan(), api.OK, 0)
	for _, x := range bounds() {
		for _, n := range []int{x.least, x.most} {
			faulty(t, x.name, planWith(func(p *api.Plan) { *x.of(p) = n }), api.OK, 0)
		}
		for _, n := range far(x.least, x.most) {
			faulty(t, x.name, planWith(func(p *api.Plan) { *x.of(p) = n }), x.code, x.at)
		}
	}
}

// TestPlanFrames: sizes, depths, checks and rates go together or not.
func TestPlanFrames(t *testing.T) {
	cases := []struct {
		size, depth, checks int
		rate                api.Rate
		code                api.Errno
		at                  int
	}{
		{api.MinFrame, 1, 1, api.Half, api.OK, 0},
		{api.MinFrame - 1, 1, 1, api.Half, api.ErrSize, 1},
		{api.MaxFrame + 1, 1, 1, api.Half, api.ErrSize, 1},
		{math.MinInt, 1, 1, api.Half, api.ErrSize, 1},
		{math.MaxInt, 1, 1, api.Half, api.ErrSize, 1},
		{0, 1, 1, api.Half, api.ErrSize, 1},
		{api.MaxFrame, 8, 1, api.Half, api.ErrSize, 2}, // 257 bytes a row
		{251, 1, 4, api.Half, api.OK, 0},
		{252, 1, 4, api.Half, api.ErrSize, 2}, // 256 bytes a row
		{24, 8, 64, api.Half, api.OK, 0},
		{24, 5, 4, api.Half, api.ErrSize, 2}, // no multiple
		{24, 0, 4, api.Half, api.ErrSize, 2},
		{24, -1, 4, api.Half, api.ErrSize, 2},
		{27, 9, 4, api.Half, api.ErrSize, 2},
		{24, math.MinInt, 4, api.Half, api.ErrSize, 2},
		{24, math.MaxInt, 4, api.Half, api.ErrSize, 2},
		{24, 1, 4, 0, api.ErrKind, 3},
		{24, 1, 4, 6, api.ErrKind, 3},
		{24, 1, 4, -1, api.ErrKind, 3},
		{24, 1, 4, math.MaxInt, api.ErrKind, 3},
		{1018, 1, 5, api.Half, api.ErrSize, 2},
		// Half: 1023 bytes are 8184 bits, with the tail 8190, 16380 symbols, 2048 bytes; a byte more does not go.
		{1003, 1, 20, api.Half, api.ErrSize, 2},
		{903, 7, 17, api.Half, api.OK, 0},        // 1022 bytes
		{904, 8, 15, api.Half, api.ErrSize, 3},   // 1024 bytes
		{1488, 8, 1, api.Half, api.ErrSize, 3},   // 1496 bytes
		{1352, 8, 1, api.Thirds, api.OK, 0},      // 1360 bytes: 10886 bits, 16329 symbols
		{1360, 8, 1, api.Thirds, api.ErrSize, 3}, // 1368 bytes: 10950 bits, 16425 symbols
		{1520, 8, 1, api.Fourth, api.OK, 0},      // 1528 bytes: 12230 bits, 16307 symbols
		{1528, 8, 1, api.Fourth, api.ErrSize, 3}, // 1536 bytes: 12294 bits, 16392 symbols
		{1696, 8, 1, api.Sixths, api.OK, 0},      // 1704 bytes: 13638 bits, 16366 symbols
		{1704, 8, 1, api.Sixths, api.ErrSize, 3}, // 1712 bytes: 13702 bits, 16443 symbols
		{1776, 8, 1, api.Eighth, api.OK, 0},      // 1784 bytes: 14278 bits, 16318 symbols
		{1784, 8, 1, api.Eighth, api.ErrSize, 3}, // 1792 bytes: 14342 bits, 16391 symbols
	}
	for i, x := range cases {
		p := plan()
		p.Size, p.Depth, p.Checks, p.Rate = x.size, x.depth, x.checks, x.rate
		if f := mission.Check(p); f != (api.Fault{Code: x.code, At: x.at}) {
			t.Errorf("case %d: %v: %v", i, x, f)
		}
	}
}

// TestPlanTexts: sequences, and what refers to them.
func TestPlanTexts(t *testing.T) {
	long := strings.Repeat(" ", api.MaxText)
	cases := []struct {
		change func(p *api.Plan)
		code   api.Errno
		at     int
	}{
		{func(p *api.Plan) { p.Text += ";" }, api.ErrForm, 5},
		{func(p *api.Plan) { p.Text += p.Text }, api.ErrTwice, 5},
		{func(p *api.Plan) { p.Text += "SEQUENCE x LEVEL 0 LIMIT 1: WAIT 1; END;" }, api.ErrSlow, 5},
		{func(p *api.Plan) { p.Text += "SEQUENCE x LEVEL 0 LIMIT 1: CALL cold; END;" }, api.ErrName, 5},
		{func(p *api.Plan) { p.Text += "SEQUENCE x LEVEL 0 LIMIT 1: CALL cool; END;" }, api.ErrKind, 5},
		{func(p *api.Plan) { p.Text += "SEQUENCE x LEVEL 10 LIMIT 1: END;" }, api.ErrRange, 5},
		{func(p *api.Plan) { p.Text += long }, api.ErrSize, 5},
		{func(p *api.Plan) { p.Names = []string{"temp", "temp"} }, api.ErrPlan, 5},
		{func(p *api.Plan) { p.Names = []string{"temp", "Mode"} }, api.ErrPlan, 5},
		{func(p *api.Plan) { p.Names = slices.Repeat(p.Names, 100) }, api.ErrPlan, 5},
		{func(p *api.Plan) { p.Names = p.Names[:1] }, api.ErrName, 5},
		{func(p *api.Plan) { p.Text, p.Guard.Safe = "", "" }, api.OK, 0},
		{func(p *api.Plan) { p.Text, p.Guard, p.Names, p.Inputs = "", api.Guard{Most: 1, Window: 1}, nil, 0 }, api.OK, 0},
		{func(p *api.Plan) { p.Text, p.Guard, p.Names = "", api.Guard{Most: 1, Window: 1}, nil }, api.ErrRange, 6},
		{func(p *api.Plan) { p.Text = "" }, api.ErrName, 6},
		{func(p *api.Plan) { p.Guard.Safe = "" }, api.OK, 0},
		{func(p *api.Plan) { p.Guard.Safe = "cool" }, api.OK, 0},
		{func(p *api.Plan) { p.Guard.Safe = "cold" }, api.ErrName, 6},
		{func(p *api.Plan) { p.Guard.Safe = "mode" }, api.ErrName, 6},
		{func(p *api.Plan) { p.Guard.Safe = "Shut" }, api.ErrName, 6},
		{func(p *api.Plan) { p.Guard.Monitors[0].Then = "shut" }, api.OK, 0},
		{func(p *api.Plan) { p.Guard.Monitors[0].Then = "shu" }, api.ErrName, 6},
		{func(p *api.Plan) { p.Guard.Monitors = append(p.Guard.Monitors, p.Guard.Monitors[0]) }, api.OK, 0},
		{func(p *api.Plan) { p.Guard.Monitors = slices.Repeat(p.Guard.Monitors, api.MaxMonitors+1) }, api.ErrSize, 6},
		{func(p *api.Plan) { p.Guard.Monitors[0].Of = 1 }, api.OK, 0},
		{func(p *api.Plan) { p.Guard.Monitors[0].Of = 2 }, api.ErrName, 6},
		{func(p *api.Plan) { p.Guard.Monitors[0].Of = api.MaxNames }, api.ErrRange, 6},
		{func(p *api.Plan) { p.Guard.Monitors[0].Of = -1 }, api.ErrRange, 6},
		{func(p *api.Plan) { p.Guard.Monitors[0].Tier = 4 }, api.ErrRange, 6},
		{func(p *api.Plan) { p.Guard.Most = 0 }, api.ErrRange, 6},
		{func(p *api.Plan) { p.Guard.Monitors = nil }, api.OK, 0},
		// Each field counts by itself: the last of many monitors, too.
		{func(p *api.Plan) {
			p.Guard.Monitors = slices.Repeat(p.Guard.Monitors, api.MaxMonitors)
			p.Guard.Monitors[api.MaxMonitors-1].Then = "cold"
		}, api.ErrName, 6},
		{func(p *api.Plan) { p.Inputs, p.Guard.Safe = 3, "cold" }, api.ErrRange, 6},
		{func(p *api.Plan) { p.Inputs, p.Guard.Monitors[0].For = 3, 0 }, api.ErrRange, 6},
		{func(p *api.Plan) { p.Inputs, p.Guard.Safe = 3, "COLD" }, api.ErrName, 6},
		{func(p *api.Plan) { p.Words, p.Scrub = 1, 1 }, api.OK, 0},
		{func(p *api.Plan) { p.Words, p.Scrub = 0, 0 }, api.ErrRange, 7},
		{func(p *api.Plan) { p.Words, p.Scrub = api.MaxMemory, api.MaxMemory }, api.OK, 0},
	}
	for i, x := range cases {
		p := planWith(x.change)
		if f := mission.Check(p); f != (api.Fault{Code: x.code, At: x.at}) {
			t.Errorf("case %d: %v, not %v at %d", i, f, x.code, x.at)
		}
	}
}

// TestPlanFirst: of several faults the first one is told.
func TestPlanFirst(t *testing.T) {
	faults := []struct {
		spoil func(p *api.Plan)
		code  api.Errno
		at    int
	}{
		{func(p *api.Plan) { p.Craft = -1 }, api.ErrRange, 1},
		{func(p *api.Plan) { p.Size = 5 }, api.ErrSize, 1},
		{func(p *api.Plan) { p.Checks = 0 }, api.ErrSize, 2},
		{func(p *api.Plan) { p.Rate = 9 }, api.ErrKind, 3},
		{func(p *api.Plan) { p.Find = 9 }, api.ErrRange, 3},
		{func(p *api.Plan) { p.Half = 0 }, api.ErrRange, 4},
		{func(p *api.Plan) { p.Text = "x" }, api.ErrForm, 5},
		{func(p *api.Plan) { p.Guard.Window = 0 }, api.ErrRange, 6},
		{func(p *api.Plan) { p.Guard.Safe = "cold" }, api.ErrName, 6},
		{func(p *api.Plan) { p.Every = 0 }, api.ErrRange, 7},
	}
	for i, x := range faults {
		p := plan()
		for _, y := range faults[i:] {
			y.spoil(&p)
		}
		faulty(t, "all from one on", p, x.code, x.at)
		for _, y := range faults[i+1:] {
			faulty(t, "two", planWith(func(p *api.Plan) { y.spoil(p); x.spoil(p) }), x.code, x.at)
		}
	}
	// The block's size counts ahead of Find.
	faulty(t, "a great block", planWith(func(p *api.Plan) { p.Size, p.Depth, p.Find = 1488, 8, 9 }), api.ErrSize, 3)
	faulty(t, "nothing", api.Plan{}, api.ErrSize, 1)
}
