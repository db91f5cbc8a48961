package mission_test

import (
	"math/rand"
	"slices"
	"strconv"
	"testing"

	"farhail/api"
	"farhail/command"
	"farhail/frame"
	"farhail/mission"
	"farhail/packet"
	"farhail/stream"
)

// mast sends down what a test puts, as a craft would.
type mast struct {
	*testing.T
	plan   api.Plan
	sender api.Sender
	counts map[int]int
	status int
}

func masted(t *testing.T, p api.Plan) *mast {
	t.Helper()
	s, e := frame.Open(p.Craft, p.Size)
	if e != api.OK {
		t.Fatal(e)
	}
	g, _ := command.Guard(p.Craft, p.Half)
	status, _ := command.Report(g)
	return &mast{T: t, plan: p, sender: s, counts: map[int]int{}, status: status}
}

// tell a unit, on a channel.
func (m *mast) tell(channel, apid int, unit string, most int) {
	m.Helper()
	l, e := packet.Cut(false, apid, m.counts[apid], []byte(unit), most)
	if e != api.OK {
		m.Fatal(e)
	}
	for _, p := range l {
		b, _ := packet.Encode(p)
		if m.sender, e = frame.Put(m.sender, channel, b); e != api.OK {
			m.Fatal(e)
		}
		m.counts[apid] = (m.counts[apid] + 1) % (api.MaxCount + 1)
	}
}

// next frame, as bits on their way.
func (m *mast) next() []byte {
	m.Helper()
	s, b, e := frame.Next(m.sender, m.status)
	if e != api.OK {
		m.Fatal(e)
	}
	m.sender = s
	return onWay(m.T, m.plan, b)
}

// all frames till nothing waits, each as bits.
func (m *mast) all() (l [][]byte) {
	m.Helper()
	for slices.ContainsFunc(m.sender.Queues, func(q api.Queue) bool { return len(q.Packets) > 0 }) && len(l) < 1000 {
		l = append(l, m.next())
	}
	return l
}

// texts of units, each behind its apid.
func texts(units []api.Unit) (l []string) {
	for _, u := range units {
		l = append(l, strconv.Itoa(u.Apid)+string(u.Data))
	}
	return l
}

// hears: what the ground tells of bits.
func hears(t *testing.T, p api.Plan, d api.Desk, bits []byte) api.Sat {
	t.Helper()
	x := mission.Hear(p, d, bits)
	if x.Code != api.OK {
		t.Fatal("Hear:", x.Code)
	}
	return x
}

// drawnUnits of all three apids, as they are told.
func drawnUnits(r *rand.Rand, m *mast, n int) (l []api.Unit) {
	for range n {
		u := api.Unit{Apid: 1 + r.Intn(3), Data: make([]byte, 1+r.Intn(30))}
		r.Read(u.Data)
		m.tell(0, u.Apid, string(u.Data), 1+r.Intn(20))
		l = append(l, u)
	}
	return l
}

// TestPieces: it makes no difference in which pieces the bits come, nor what stands in them beside the lowest bit.
func TestPieces(t *testing.T) {
	r := rand.New(rand.NewSource(141))
	for rate := api.Half; rate <= api.Eighth; rate++ {
		for _, longest := range []int{1, 40, 500, 5000} {
			p := planWith(func(p *api.Plan) { p.Rate = rate })
			m := masted(t, p)
			want := drawnUnits(r, m, 6)
			bits := slices.Concat(make([]byte, r.Intn(100)), slices.Concat(m.all()...))
			d := seated(t, p)
			var got []api.Unit
			for len(bits) > 0 {
				piece := slices.Clone(bits[:min(1+r.Intn(longest), len(bits))])
				bits = bits[len(piece):]
				for i := range piece {
					piece[i] |= byte(r.Intn(128)) << 1
				}
				x := hears(t, p, d, piece)
				d, got = x.Desk, append(got, x.Units...)
				if x.Lost != 0 {
					t.Error(x.Lost, "lost")
				}
			}
			if !same(got, want) {
				t.Fatalf("rate %d: %v, not %v", rate, got, want)
			}
		}
	}
}

// leftOf bits, by the document's words.
func leftOf(p api.Plan, way int, all []byte) []byte {
	s, _ := stream.New(api.Rule{Length: (way - 32) / 8, Find: p.Find})
	left := all
	for f := range s.Take(all) {
		left = all[f.At+way:]
	}
	return left[max(0, len(left)-way+1):]
}

// TestLeft: what lies behind the last frame that was found, or all; but no more than a frame less a bit.
func TestLeft(t *testing.T) {
	r := rand.New(rand.NewSource(142))
	p := plan()
	d := seated(t, p)
	m := masted(t, p)
	var left []byte
	for range 300 {
		var bits []byte
		for range r.Intn(4) {
			noise := make([]byte, r.Intn(300))
			for i := range noise {
				noise[i] = byte(r.Intn(2))
			}
			f := m.next()
			bits = slices.Concat(bits, noise, f[r.Intn(5)/4:len(f)-r.Intn(3)/2])
		}
		if r.Intn(10) == 0 {
			bits = append(bits, make([]byte, 2000)...)
		}
		left = leftOf(p, 496, slices.Concat(left, bits))
		d = hears(t, p, d, bits).Desk
		if !slices.Equal(d.Left, left) {
			t.Fatalf("%d bits, not %d", len(d.Left), len(left))
		}
	}
	if d = hears(t, p, seated(t, p), make([]byte, 5000)).Desk; len(d.Left) != 495 {
		t.Error(len(d.Left))
	}
	if d = hears(t, p, seated(t, p), make([]byte, 495)).Desk; len(d.Left) != 495 {
		t.Error(len(d.Left))
	}
	if d = hears(t, p, seated(t, p), masted(t, p).next()).Desk; len(d.Left) != 0 {
		t.Error(len(d.Left))
	}
}

// TestFind: so many bits of a mark may be wrong; all bits may be turned.
func TestFind(t *testing.T) {
	for find := range 9 {
		p := planWith(func(p *api.Plan) { p.Find = find })
		for wrong := range 10 {
			m := masted(t, p)
			m.tell(0, api.Events, "x", 9)
			bits := m.next()
			for i := range wrong {
				bits[i*3] ^= 1
			}
			for _, turn := range []byte{0, 1} {
				for i := range bits {
					bits[i] ^= turn
				}
				if got := hears(t, p, seated(t, p), bits).Units; (len(got) == 1) != (wrong <= find) {
					t.Errorf("find %d, wrong %d, turned %d: %v", find, wrong, turn, got)
				}
			}
		}
	}
}

// TestWrongSymbols: as many as can be gathered, wherever they are.
func TestWrongSymbols(t *testing.T) {
	r := rand.New(rand.NewSource(143))
	for rate, few := range map[api.Rate]int{api.Half: 4, api.Thirds: 2, api.Fourth: 2, api.Sixths: 1, api.Eighth: 1} {
		p := planWith(func(p *api.Plan) { p.Rate = rate })
		for range 30 {
			m := masted(t, p)
			m.tell(0, api.Events, "abcdef", 9)
			bits := m.next()
			for range few {
				bits[32+r.Intn(len(bits)-32)] ^= 1
			}
			if got := hears(t, p, seated(t, p), bits).Units; len(got) != 1 || string(got[0].Data) != "abcdef" {
				t.Errorf("rate %d: %q", rate, texts(got))
			}
		}
	}
}

// TestWrongStretch: more symbols than can be gathered, but no more bytes by that than the checks mend.
func TestWrongStretch(t *testing.T) {
	p := plan()
	for from := 40; from < 440; from += 7 {
		m := masted(t, p)
		m.tell(0, api.Events, "abcdef", 9)
		bits := m.next()
		for i := from; i < from+12; i += 2 {
			bits[i] ^= 1
		}
		if got := hears(t, p, seated(t, p), bits).Units; len(got) != 1 || string(got[0].Data) != "abcdef" {
			t.Errorf("from %d: %q", from, texts(got))
		}
	}
}

// TestSpoilt: a frame that cannot be mended counts for nothing; of the next one it is told that it was lost.
func TestSpoilt(t *testing.T) {
	p := plan()
	m := masted(t, p)
	m.tell(0, api.Events, "one", 9)
	first := m.next()
	m.tell(0, api.Events, "two", 9)
	second := m.next()
	for i := 40; i < 400; i += 3 {
		second[i] ^= 1
	}
	m.status ^= 1
	m.tell(0, api.Events, "three", 9)
	third := m.next()
	x := hears(t, p, seated(t, p), slices.Concat(first, second))
	if !same(x.Units, []api.Unit{{Apid: 2, Data: []byte("one")}}) || x.Lost != 0 {
		t.Error(x.Units, x.Lost)
	}
	x = hears(t, p, x.Desk, third)
	if !same(x.Units, []api.Unit{{Apid: 2, Data: []byte("three")}}) || x.Lost != 1 {
		t.Error(x.Units, x.Lost)
	}
}

// TestLostAddUp: over all frames of a tick.
func TestLostAddUp(t *testing.T) {
	p := plan()
	m := masted(t, p)
	var l [][]byte
	for range 20 {
		l = append(l, m.next())
	}
	x := hears(t, p, seated(t, p), slices.Concat(l[3], l[5], l[6], l[10]))
	if x.Lost != 1+3 {
		t.Error(x.Lost)
	}
	if x = hears(t, p, x.Desk, nil); x.Lost != 0 {
		t.Error(x.Lost)
	}
	if x = hears(t, p, x.Desk, l[19]); x.Lost != 8 {
		t.Error(x.Lost)
	}
}

// TestOtherCrafts: their frames count for nothing.
func TestOtherCrafts(t *testing.T) {
	p := plan()
	m := masted(t, planWith(func(p *api.Plan) { p.Craft = 6 }))
	m.tell(0, api.Events, "x", 9)
	d := seated(t, p)
	x := hears(t, p, d, m.next())
	if len(x.Units) > 0 || x.Lost != 0 || !same(x.Desk.Listener, d.Listener) || !same(x.Desk.Joins, d.Joins) {
		t.Error(x)
	}
}

// TestOtherApids are left alone, those next to the three ones too; any channel will do.
func TestOtherApids(t *testing.T) {
	p := plan()
	m := masted(t, p)
	for channel, apid := range []int{0, 1, 2, 3, 4, 2046, 2} {
		m.tell(channel, apid, string(rune('a'+channel)), 9)
	}
	x := hears(t, p, seated(t, p), slices.Concat(m.all()...))
	got := texts(x.Units)
	slices.Sort(got)
	if !slices.Equal(got, []string{"1b", "2c", "2g", "3d"}) {
		t.Errorf("%q", got)
	}
}

// TestUnitsInPieces: a unit goes on over ticks, and is told when it is whole; one of which a packet is lost never is.
func TestUnitsInPieces(t *testing.T) {
	p := plan()
	for gone := -1; gone < 8; gone++ {
		m := masted(t, p)
		long := "a long unit, in many packets, over many frames"
		m.tell(0, api.Reports, long, 6)
		d := seated(t, p)
		var got []api.Unit
		l := m.all()
		for i, bits := range l {
			if i == gone {
				continue
			}
			x := hears(t, p, d, bits)
			d, got = x.Desk, append(got, x.Units...)
			// In the last frame there may be nothing but the end of what fills.
			if len(x.Units) > 0 && i < len(l)-2 {
				t.Error("told ahead of time")
			}
		}
		if gone < 0 && !same(got, []api.Unit{{Apid: 1, Data: []byte(long)}}) || gone >= 0 && len(got) > 0 {
			t.Errorf("gone %d: %q", gone, texts(got))
		}
		m.tell(0, api.Reports, "z", 6)
		if x := hears(t, p, d, slices.Concat(m.all()...)); !same(x.Units, []api.Unit{{Apid: 1, Data: []byte("z")}}) {
			t.Errorf("gone %d: %q", gone, texts(x.Units))
		}
	}
}

// report of a gate that expects a number.
func report(next int, again, wait bool) int {
	s, _ := command.Report(api.Gate{Half: 1, Next: next, Again: again, Wait: wait})
	return s
}

// TestUp: the hand takes a step a tick, with the last status that was heard, if one was.
func TestUp(t *testing.T) {
	p := planWith(func(p *api.Plan) { p.Ahead, p.Patience = 3, 4 })
	d := seated(t, p)
	for range 7 {
		d, _ = mission.Order(p, d, []byte("L"))
	}
	hand := d.Hand
	m := masted(t, p)
	step := func(bits []byte, status int, heard bool) {
		t.Helper()
		x := hears(t, p, d, bits)
		var up [][]byte
		hand, up, _ = command.Step(hand, status, heard)
		if !same(x.Up, up) || !same(x.Desk.Hand, hand) {
			t.Errorf("%x, not %x; %+v", x.Up, up, x.Desk.Hand)
		}
		d = x.Desk
	}
	step(nil, 0, false)
	if len(hand.Sent) != 3 {
		t.Error(len(hand.Sent))
	}
	step(nil, 0, false)
	m.status = report(1, false, false)
	first := m.next()
	m.status = report(2, true, false)
	second := m.next()
	step(slices.Concat(first, second), report(2, true, false), true) // the last status counts
	step(nil, 0, false)
	m.status = report(2, false, true)
	step(m.next(), m.status, true)
	m.status = report(5, true, false)
	spoilt := m.next()
	for i := 40; i < 400; i += 3 {
		spoilt[i] ^= 1
	}
	step(spoilt, 0, false)
	for range 12 {
		step(nil, 0, false)
	}
	m.status = 7 // which no gate reports
	step(m.next(), 7, true)
	m.status = report(250, false, false)
	step(m.next(), m.status, true)
	if hand.Halt != api.ErrState {
		t.Error(hand.Halt)
	}
	step(nil, 0, false)
}
