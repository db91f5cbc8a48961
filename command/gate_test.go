package command_test

import (
	"fmt"
	"math/rand"
	"strconv"
	"sync"
	"testing"

	"farhail/api"
	"farhail/command"
)

func TestGuard(t *testing.T) {
	for _, craft := range []int{0, 1, api.MaxCraft} {
		for half := 1; half <= 127; half++ {
			if g, e := command.Guard(craft, half); e != api.OK || g != (api.Gate{Craft: craft, Half: half}) {
				t.Errorf("%d %d: %+v %v", craft, half, g, e)
			}
		}
	}
	try := func(craft, half int) {
		if g, e := command.Guard(craft, half); e != api.ErrRange || g != (api.Gate{}) {
			t.Errorf("%d %d: %+v %v", craft, half, g, e)
		}
	}
	for _, n := range far(0, api.MaxCraft) {
		try(n, 1)
	}
	for _, n := range far(1, 127) {
		try(0, n)
	}
}

// wrongGates: those that may not be.
func wrongGates() []api.Gate {
	l := []api.Gate{{}}
	for _, n := range far(0, api.MaxCraft) {
		l = append(l, api.Gate{Craft: n, Half: 1})
	}
	for _, n := range far(1, 127) {
		l = append(l, api.Gate{Half: n})
	}
	for _, n := range far(0, 255) {
		l = append(l, api.Gate{Half: 1, Next: n})
	}
	for _, n := range far(0, 3) {
		l = append(l, api.Gate{Half: 1, Count: n})
	}
	return l
}

func TestWrongGates(t *testing.T) {
	orders := []api.Order{{Data: []byte{1}}, {Bypass: true, Data: []byte{1}}, {Bypass: true, Control: true, Data: []byte{0}}, {}, {Craft: -1}, {Craft: 2, Data: []byte{1}}}
	for _, g := range wrongGates() {
		for _, o := range orders {
			if got, let, e := command.Accept(g, o, true); e != api.ErrState || let || got != (api.Gate{}) {
				t.Errorf("Accept of %+v: %+v %v %v", g, got, let, e)
			}
		}
		if n, e := command.Report(g); n != 0 || e != api.ErrState {
			t.Errorf("Report of %+v: %d %v", g, n, e)
		}
	}
}

// slowQueue: an order that is neither Bypass nor Control comes to a gate that may be, as the chapter tells it, by counting on from Next.
func slowQueue(g api.Gate, seq int, room bool) (api.Gate, bool, api.Errno) {
	if g.Shut {
		return g, false, api.ErrShut
	}
	d := 0
	for n := g.Next; n != seq; n = (n + 1) % 256 {
		d++
	}
	if d == 0 && room {
		return api.Gate{Craft: g.Craft, Half: g.Half, Count: g.Count, Next: (g.Next + 1) % 256}, true, api.OK
	}
	if d == 0 {
		g.Wait, g.Again = true, true
		return g, false, api.ErrFull
	}
	if 1 <= d && d <= g.Half-1 {
		g.Again = true
		return g, false, api.ErrMore
	}
	if d >= 256-g.Half {
		return g, false, api.ErrOld
	}
	g.Shut = true
	return g, false, api.ErrShut
}

// gates of all states, of some crafts, numbers and halves.
func gates(use func(g api.Gate)) {
	for _, half := range []int{1, 2, 3, 10, 64, 126, 127} {
		for _, next := range []int{0, 1, 5, 127, 128, 250, 254, 255} {
			for state := range 32 {
				use(api.Gate{Craft: next * 4, Next: next, Half: half, Shut: state&1 > 0, Wait: state&2 > 0, Again: state&4 > 0, Count: state / 8})
			}
		}
	}
}

func TestInOrder(t *testing.T) {
	gates(func(g api.Gate) {
		for seq := range 256 {
			for _, room := range []bool{false, true} {
				want, wantLet, wantE := slowQueue(g, seq, room)
				got, let, e := command.Accept(g, api.Order{Craft: g.Craft, Seq: seq, Data: []byte{0}}, room)
				if got != want || let != wantLet || e != wantE {
					t.Fatalf("%+v, %d, %v: %+v %v %v, not %+v %v %v", g, seq, room, got, let, e, want, wantLet, wantE)
				}
			}
		}
	})
}

// TestHalves: the edges of what is missing, old and too far, for every half.
func TestHalves(t *testing.T) {
	for half := 1; half <= 127; half++ {
		for next := range 256 {
			g := api.Gate{Next: next, Half: half}
			try := func(d int, want api.Errno) {
				_, let, e := command.Accept(g, api.Order{Seq: (next + d + 256) % 256, Data: []byte{1}}, true)
				if e != want || let != (want == api.OK) {
					t.Fatalf("%+v, %d on: %v %v, not %v", g, d, let, e, want)
				}
			}
			try(0, api.OK)
			if half > 1 {
				try(1, api.ErrMore)
				try(half-1, api.ErrMore)
			}
			try(half, api.ErrShut)
			try(-half-1, api.ErrShut)
			try(-half, api.ErrOld)
			try(-1, api.ErrOld)
		}
	}
}

func TestGateExamples(t *testing.T) {
	g := api.Gate{Next: 250, Half: 10}
	for seq, want := range map[int]api.Errno{4: api.ErrShut, 3: api.ErrMore, 240: api.ErrOld, 239: api.ErrShut, 249: api.ErrOld, 250: api.OK, 251: api.ErrMore} {
		got, let, e := command.Accept(g, api.Order{Seq: seq, Data: []byte{1}}, true)
		if e != want || let != (seq == 250) || got.Shut != (want == api.ErrShut) || got.Again != (want == api.ErrMore) {
			t.Errorf("%d: %+v %v %v", seq, got, let, e)
		}
	}
	if n, e := command.Report(api.Gate{Next: 5, Half: 1, Shut: true}); n != 0x01002005 || e != api.OK {
		t.Errorf("%X %v", n, e)
	}
}

func TestPastTheGate(t *testing.T) {
	gates(func(g api.Gate) {
		for _, room := range []bool{false, true} {
			for _, seq := range []int{0, g.Next, 77, 255} {
				try := func(what string, o api.Order, want api.Gate, wantLet bool, wantE api.Errno) {
					t.Helper()
					o.Craft, o.Bypass, o.Seq = g.Craft, true, seq
					if got, let, e := command.Accept(g, o, room); got != want || let != wantLet || e != wantE {
						t.Fatalf("%s: %+v: %+v %v %v, not %+v %v %v", what, g, got, let, e, want, wantLet, wantE)
					}
				}
				more := g
				more.Count = []int{1, 2, 3, 0}[g.Count]
				// What is for the gate is let in like anything else, if it is no Control.
				for _, data := range [][]byte{{0}, {1}, {0x82, 0, 7}, {0x82, 0}} {
					try("bypass", api.Order{Data: data}, more, true, api.OK)
				}
				try("unlock", api.Order{Control: true, Data: []byte{0}}, api.Gate{Craft: g.Craft, Next: g.Next, Half: g.Half, Count: more.Count}, false, api.OK)
				for _, n := range []byte{0, 1, 130, 255} {
					want := api.Gate{Craft: g.Craft, Next: int(n), Half: g.Half, Count: more.Count}
					if g.Shut {
						want = more
					}
					try("set", api.Order{Control: true, Data: []byte{0x82, 0, n}}, want, false, api.OK)
				}
				for _, data := range [][]byte{{1}, {0x82}, {0xFF}, {0, 0}, {0, 0, 0}, {0x82, 0}, {0x82, 1, 7}, {0x83, 0, 7}, {0, 0x82, 7}, {0x82, 0, 7, 0}, {0x82, 0, 7, 7, 7}, make([]byte, 1017)} {
					try("other data", api.Order{Control: true, Data: data}, g, false, api.ErrForm)
				}
			}
		}
	})
}

func TestAcceptRefuses(t *testing.T) {
	try := func(g api.Gate, o api.Order, want api.Errno) {
		t.Helper()
		if got, let, e := command.Accept(g, o, true); got != g || let || e != want {
			t.Errorf("%+v, %+v: %+v %v %v, not %v", g, o, got, let, e, want)
		}
	}
	for _, g := range []api.Gate{{Half: 1}, {Craft: 5, Half: 9, Next: 7, Wait: true, Count: 2}, {Half: 3, Shut: true, Again: true}} {
		for want, l := range wrongOrders() {
			for _, o := range l {
				try(g, o, want)
			}
		}
		for _, craft := range []int{g.Craft + 1, g.Craft ^ 512, api.MaxCraft} {
			try(g, api.Order{Craft: craft, Seq: g.Next, Data: []byte{1}}, api.ErrName)
			try(g, api.Order{Craft: craft, Bypass: true, Data: []byte{1}}, api.ErrName)
			try(g, api.Order{Craft: craft, Bypass: true, Control: true, Data: []byte{0}}, api.ErrName)
			try(g, api.Order{Craft: craft, Bypass: true, Control: true, Data: []byte{1}}, api.ErrName)
		}
	}
}

func TestAcceptApart(t *testing.T) {
	for _, o := range []api.Order{{Data: roomy([]byte{1})}, {Bypass: true, Data: roomy([]byte{1})}, {Bypass: true, Control: true, Data: roomy([]byte{0x82, 0, 4})}} {
		apart(t, "Accept", []any{o}, func() []any {
			command.Accept(api.Gate{Half: 1}, o, true)
			return nil
		})
	}
}

// slowReport: written as a text of noughts and ones.
func slowReport(g api.Gate) int {
	text := "0" + "00" + "000" + "01" + "000000" + "00" + "0" + "0" + digit(g.Shut) + digit(g.Wait) + digit(g.Again) + fmt.Sprintf("%02b", g.Count) + "0" + fmt.Sprintf("%08b", g.Next)
	n, err := strconv.ParseInt(text, 2, 64)
	if err != nil || len(text) != 32 {
		panic(text)
	}
	return int(n)
}

// allReports: what may be read, and of which gate it is.
var allReports = sync.OnceValue(func() map[int]api.Gate {
	l := map[int]api.Gate{}
	for next := range 256 {
		for state := range 32 {
			g := api.Gate{Next: next, Shut: state&1 > 0, Wait: state&2 > 0, Again: state&4 > 0, Count: state / 8}
			l[slowReport(g)] = g
		}
	}
	return l
})

func TestReportAndRead(t *testing.T) {
	l := allReports()
	if len(l) != 8192 {
		t.Fatalf("%d reports", len(l))
	}
	for want, g := range l {
		at := g
		at.Craft, at.Half = 1023-g.Next, 1+g.Next/2%127
		if n, e := command.Report(at); n != want || e != api.OK {
			t.Fatalf("Report of %+v: %X %v, not %X", at, n, e, want)
		}
		if got, e := command.Read(want); got != g || e != api.OK {
			t.Fatalf("Read of %X: %+v %v, not %+v", want, got, e, g)
		}
	}
}

func TestReadRefuses(t *testing.T) {
	l := allReports()
	try := func(n int) {
		want := api.OK
		if n < 0 || n > 4294967295 {
			want = api.ErrRange
		} else if _, ok := l[n]; !ok {
			want = api.ErrForm
		}
		if g, e := command.Read(n); e != want || g != l[n] {
			t.Fatalf("%X: %+v %v, not %v", n, g, e, want)
		}
	}
	for _, n := range far(0, 4294967295) {
		try(n)
	}
	for _, n := range []int{0, 1, 4294967295, 0x01000000, 0x100000000 | 0x01002005, -0x01000000} {
		try(n)
	}
	r := rand.New(rand.NewSource(73))
	for n := range l {
		for place := range 33 {
			try(n ^ 1<<place)
		}
		try(n ^ r.Intn(1<<32))
		try(-n)
	}
}
