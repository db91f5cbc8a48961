package packet_test

import (
	"bytes"
	"math"
	"math/rand"
	"reflect"
	"testing"

	"farhail/api"
	"farhail/packet"
)

// slowCut: byte by byte.
func slowCut(up bool, apid, count int, unit []byte, most int) []api.Packet {
	var out []api.Packet
	for i, x := range unit {
		if i%most == 0 {
			out = append(out, api.Packet{Up: up, Apid: apid, Count: (count + i/most) % 16384})
		}
		last := &out[len(out)-1]
		last.Data = append(last.Data, x)
	}
	out[0].Part += api.First
	out[len(out)-1].Part += api.Last
	return out
}

func TestCut(t *testing.T) {
	l, e := packet.Cut(false, 9, api.MaxCount, []byte{1, 2, 3, 4, 5}, 2)
	want := []api.Packet{
		{Apid: 9, Part: api.First, Count: 16383, Data: []byte{1, 2}},
		{Apid: 9, Part: api.Middle, Count: 0, Data: []byte{3, 4}},
		{Apid: 9, Part: api.Last, Count: 1, Data: []byte{5}},
	}
	if e != api.OK || !reflect.DeepEqual(l, want) {
		t.Errorf("the example: %+v %v", l, e)
	}
	r := rand.New(rand.NewSource(53))
	for n := 1; n <= 30; n++ {
		for most := 1; most <= 32; most++ {
			up, apid, count, unit := r.Intn(2) == 0, r.Intn(api.MaxApid), r.Intn(api.MaxCount+1), some(r, n)
			l, e := packet.Cut(up, apid, count, unit, most)
			if e != api.OK || !reflect.DeepEqual(l, slowCut(up, apid, count, unit, most)) {
				t.Fatalf("%v %d %d %X %d: %+v %v", up, apid, count, unit, most, l, e)
			}
		}
	}
}

func TestCutEdges(t *testing.T) {
	r := rand.New(rand.NewSource(54))
	unit := some(r, api.MaxUnit+1)
	try := func(want api.Errno, apid, count, n, most int) {
		t.Helper()
		l, e := packet.Cut(true, apid, count, unit[:n], most)
		if e != want || e != api.OK && len(l) != 0 {
			t.Fatalf("apid %d, count %d, %d bytes, most %d: %d packets, %v, not %v", apid, count, n, most, len(l), e, want)
		}
		if e == api.OK && !reflect.DeepEqual(l, slowCut(true, apid, count, unit[:n], most)) {
			t.Errorf("apid %d, count %d, %d bytes, most %d: other packets", apid, count, n, most)
		}
	}
	try(api.OK, 0, 0, 1, 1)
	try(api.OK, api.MaxApid-1, api.MaxCount, 1, api.MaxData)
	try(api.OK, 0, 5, api.MaxUnit, api.MaxData)
	try(api.OK, 0, 5, api.MaxUnit, 64)
	try(api.OK, 0, 5, 16384, 1)
	try(api.OK, 0, 5, 2*16384, 2)
	try(api.OK, 0, 5, 2*16384-1, 2)
	for _, n := range []int{-1, api.MaxApid, api.MaxApid + 1, math.MinInt, math.MaxInt} {
		try(api.ErrRange, n, 0, 1, 1)
		try(api.ErrRange, n, 0, 0, 0)
	}
	for _, n := range []int{-1, api.MaxCount + 1, math.MinInt, math.MaxInt} {
		try(api.ErrRange, 0, n, 1, 1)
		try(api.ErrRange, 0, n, 0, 0)
	}
	try(api.ErrSize, 0, 0, 0, 1)
	try(api.ErrSize, 0, 0, api.MaxUnit+1, api.MaxData)
	for _, n := range []int{0, -1, api.MaxData + 1, math.MinInt, math.MaxInt} {
		try(api.ErrSize, 0, 0, 1, n)
		try(api.ErrSize, 0, 0, api.MaxUnit, n)
	}
	try(api.ErrSize, 0, 0, 16385, 1)
	try(api.ErrSize, 0, 0, 2*16384+1, 2)
	try(api.ErrSize, 0, 0, api.MaxUnit, 63)
	if l, e := packet.Cut(false, 0, 0, nil, 1); e != api.ErrSize || len(l) != 0 {
		t.Errorf("nothing: %v %v", l, e)
	}
}

func TestBegin(t *testing.T) {
	for _, n := range []int{0, 1, api.MaxApid - 1} {
		if j, e := packet.Begin(n); e != api.OK || j.Apid != n || j.Next != -1 || j.Open || len(j.Unit) != 0 {
			t.Errorf("%d: %+v %v", n, j, e)
		}
	}
	for _, n := range []int{-1, api.MaxApid, api.MaxApid + 1, math.MinInt, math.MaxInt} {
		if j, e := packet.Begin(n); e != api.ErrRange || !reflect.DeepEqual(j, api.Joined{}) {
			t.Errorf("%d: %+v %v", n, j, e)
		}
	}
}

// slowJoin: the chapter's four steps, word for word.
func slowJoin(j api.Joined, p api.Packet) (next int, open bool, held, unit []byte, lost bool) {
	open, held = j.Open, j.Unit
	if j.Next != -1 && j.Next != p.Count {
		lost, open, held = true, false, nil
	}
	if p.Part == api.Whole || p.Part == api.First {
		if open {
			lost, open, held = true, false, nil
		}
		if p.Part == api.Whole {
			unit = p.Data
		} else {
			open, held = true, p.Data
		}
	} else if !open {
		lost = true
	} else {
		held = append(bytes.Clone(held), p.Data...)
		if len(held) > 1<<20 {
			lost, open, held = true, false, nil
		} else if p.Part == api.Last {
			unit, open, held = held, false, nil
		}
	}
	if next = p.Count + 1; next > 16383 {
		next = 0
	}
	return next, open, held, unit, lost
}

// joins: does a packet come as the chapter has it?
func joins(t *testing.T, j api.Joined, p api.Packet) (api.Joined, []byte) {
	t.Helper()
	next, open, held, unit, lost := slowJoin(j, p)
	got, told, missed, e := packet.Join(j, p)
	if e != api.OK || got.Apid != j.Apid || got.Next != next || got.Open != open || !bytes.Equal(got.Unit, held) || !bytes.Equal(told, unit) || missed != lost {
		t.Fatalf("%d %d %v (%d bytes); part %d, count %d (%d bytes): %d %d %v (%d bytes), %d bytes, lost %v, %v", j.Apid, j.Next, j.Open, len(j.Unit), p.Part, p.Count, len(p.Data), got.Apid, got.Next, got.Open, len(got.Unit), len(told), missed, e)
	}
	return got, told
}

func TestJoinSteps(t *testing.T) {
	for _, next := range []int{-1, 0, 1, 2, 16382, 16383} {
		for _, count := range []int{0, 1, 2, 16382, 16383} {
			for part := range api.Part(4) {
				p := api.Packet{Up: true, Second: true, Apid: 6, Part: part, Count: count, Data: []byte{7, 8}}
				joins(t, api.Joined{Apid: 6, Next: next}, p)
				joins(t, api.Joined{Apid: 6, Next: next, Unit: []byte{}}, p)
				if next != -1 {
					joins(t, api.Joined{Apid: 6, Next: next, Open: true, Unit: []byte{1, 2, 3}}, p)
				}
			}
		}
	}
}

func TestJoinSize(t *testing.T) {
	r := rand.New(rand.NewSource(55))
	all, data := some(r, api.MaxUnit), some(r, api.MaxData)
	for part := range api.Part(4) {
		for _, held := range []int{1, api.MaxUnit - api.MaxData, api.MaxUnit - api.MaxData + 1, api.MaxUnit - 1, api.MaxUnit} {
			for _, n := range []int{1, 2, api.MaxData} {
				j := api.Joined{Apid: 6, Next: 4, Open: true, Unit: all[:held]}
				p := api.Packet{Apid: 6, Part: part, Count: 4, Data: data[:n]}
				j, _ = joins(t, j, p)
				joins(t, j, api.Packet{Apid: 6, Part: api.Last, Count: 5, Data: data[:1]})
			}
		}
	}
}

func TestJoinRefuses(t *testing.T) {
	good := api.Packet{Apid: 6, Part: api.Last, Count: 4, Data: []byte{1}}
	bad := api.Packet{Apid: -1}
	try := func(want api.Errno, j api.Joined, p api.Packet) {
		t.Helper()
		got, unit, lost, e := packet.Join(j, p)
		if e != want || len(unit) != 0 || lost || !reflect.DeepEqual(got, api.Joined{}) {
			t.Errorf("%d %d %v (%d bytes); %d %d %d (%d bytes): %+v %d %v %v, not %v", j.Apid, j.Next, j.Open, len(j.Unit), p.Apid, p.Part, p.Count, len(p.Data), got.Next, len(unit), lost, e, want)
		}
	}
	full := make([]byte, api.MaxUnit+1)
	for _, j := range []api.Joined{
		{Apid: -1, Next: -1},
		{Apid: api.MaxApid, Next: -1},
		{Apid: math.MaxInt, Next: -1},
		{Apid: 6, Next: -2},
		{Apid: 6, Next: api.MaxCount + 1},
		{Apid: 6, Next: math.MinInt},
		{Apid: 6, Next: math.MaxInt},
		{Apid: 6, Next: 4, Open: true, Unit: full},
		{Apid: 6, Next: 4, Unit: full},
		{Apid: 6, Next: 4, Open: true},
		{Apid: 6, Next: 4, Open: true, Unit: []byte{}},
		{Apid: 6, Next: 4, Unit: []byte{1}},
		{Apid: 6, Next: -1, Unit: []byte{1}},
		{Apid: 6, Next: -1, Open: true, Unit: []byte{1}},
		{Apid: 6, Next: -1, Open: true},
	} {
		try(api.ErrState, j, good)
		try(api.ErrState, j, bad)
	}
	j := api.Joined{Apid: 6, Next: 4, Open: true, Unit: []byte{1}}
	for _, p := range []api.Packet{
		{Apid: -1, Count: 4, Data: []byte{1}},
		{Apid: api.MaxApid + 1, Count: 4},
		{Apid: 6, Part: 4, Count: 4, Data: []byte{1}},
		{Apid: 6, Part: -1, Count: 4},
		{Apid: 6, Count: -1, Data: []byte{1}},
		{Apid: 5, Count: api.MaxCount + 1, Data: []byte{1}},
	} {
		try(api.ErrRange, j, p)
	}
	for _, apid := range []int{5, 6, api.MaxApid} {
		try(api.ErrSize, j, api.Packet{Apid: apid, Count: 4})
		try(api.ErrSize, j, api.Packet{Apid: apid, Count: 4, Data: make([]byte, api.MaxData+1)})
	}
	for _, apid := range []int{0, 5, 7, api.MaxApid} {
		try(api.ErrName, j, api.Packet{Apid: apid, Count: 4, Data: []byte{1}})
	}
}

// TestWhatIsTold: of the packets of many units some are lost: just the units of which none was are told, in order, and something is told as lost just where it can be known.
func TestWhatIsTold(t *testing.T) {
	r := rand.New(rand.NewSource(56))
	for round := range 300 {
		count := r.Intn(api.MaxCount + 1)
		j, _ := packet.Begin(6)
		var want, got [][]byte
		for range 40 {
			unit := some(r, 1+r.Intn(20))
			l, e := packet.Cut(true, 6, count, unit, 1+r.Intn(6))
			if e != api.OK {
				t.Fatal(e)
			}
			count = (count + len(l)) % 16384
			whole := true
			for _, p := range l {
				if r.Intn(40) < round%8 {
					whole = false
					continue
				}
				var told []byte
				if j, told = joins(t, j, p); len(told) > 0 {
					got = append(got, told)
				}
			}
			if whole {
				want = append(want, unit)
			}
		}
		if !reflect.DeepEqual(got, want) {
			t.Fatalf("round %d: %X, not %X", round, got, want)
		}
	}
}

func TestLongUnit(t *testing.T) {
	r := rand.New(rand.NewSource(57))
	unit := some(r, api.MaxUnit)
	l, e := packet.Cut(false, 6, 100, unit, 4099)
	if e != api.OK {
		t.Fatal(e)
	}
	j, _ := packet.Begin(6)
	var got []byte
	for i, p := range l {
		var lost bool
		if j, got, lost, e = packet.Join(j, p); e != api.OK || lost || len(got) > 0 != (i == len(l)-1) {
			t.Fatalf("packet %d: %d bytes, lost %v, %v", i, len(got), lost, e)
		}
	}
	if !bytes.Equal(got, unit) {
		t.Error("a long unit is joined to another one")
	}
}

func TestAllCountsInOneUnit(t *testing.T) {
	r := rand.New(rand.NewSource(58))
	unit := some(r, 16384)
	l, e := packet.Cut(false, 6, 3, unit, 1)
	if e != api.OK || len(l) != 16384 {
		t.Fatal(len(l), e)
	}
	j, _ := packet.Begin(6)
	var got []byte
	for _, p := range l {
		if j, got, _, e = packet.Join(j, p); e != api.OK {
			t.Fatal(e)
		}
	}
	if !bytes.Equal(got, unit) || j.Next != 3 || j.Open {
		t.Errorf("all counts in one unit: %d bytes, next %d, open %v", len(got), j.Next, j.Open)
	}
}
