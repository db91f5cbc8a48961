package mission_test

import (
	"slices"
	"testing"

	"farhail/api"
	"farhail/command"
	"farhail/deliver"
	"farhail/frame"
	"farhail/mission"
)

func TestSit(t *testing.T) {
	p := plan()
	h, _ := command.Ready(5, 8, 5, 3, 100)
	l, _ := frame.Listen(5, 24)
	used := api.Key{ID: 255, Words: make([]int, 8), Top: 7, Seen: 5}
	for _, k := range []api.Key{key(), used} {
		d, e := mission.Sit(p, k)
		want := api.Desk{Hand: h, Key: k, Listener: l, Joins: []api.Joined{{Apid: 1, Next: -1}, {Apid: 2, Next: -1}, {Apid: 3, Next: -1}}}
		if e != api.OK || !same(d, want) {
			t.Errorf("%+v %v", d, e)
		}
	}
	for _, k := range []api.Key{{}, {Words: make([]int, 8), Top: -2}, {ID: 256, Words: make([]int, 8)}, {Words: make([]int, 7)}, {Words: make([]int, 8), Seen: 1}} {
		if d, e := mission.Sit(p, k); e != api.ErrState || !same(d, api.Desk{}) {
			t.Errorf("%v: %v", k, e)
		}
		if _, e := mission.Sit(api.Plan{}, k); e != api.ErrPlan {
			t.Error(e)
		}
	}
}

// deskWith a change.
func deskWith(t *testing.T, change func(d *api.Desk)) api.Desk {
	t.Helper()
	d := seated(t, plan())
	change(&d)
	return d
}

// taker of a file that may be.
func taker(t *testing.T, id int) api.Taker {
	t.Helper()
	x, e := deliver.Expect(id, 9, 9)
	if e != api.OK {
		t.Fatal(e)
	}
	return x
}

// TestDesksThatMayBe: at all the edges.
func TestDesksThatMayBe(t *testing.T) {
	changes := []func(d *api.Desk){
		func(d *api.Desk) {},
		func(d *api.Desk) { d.Hand.Next, d.Hand.Timer, d.Hand.Tries, d.Hand.Since = 255, 4, 100, 0 },
		func(d *api.Desk) { d.Hand.Sent = slices.Repeat([][]byte{{1}}, 8) },
		func(d *api.Desk) { d.Hand.Asked = slices.Repeat([][]byte{make([]byte, api.MaxOrder)}, api.MaxAsked) },
		func(d *api.Desk) { d.Hand.Halt = api.ErrShut },
		func(d *api.Desk) { d.Key.Top, d.Key.Seen = api.MaxCounter, 1<<62-1 },
		func(d *api.Desk) { d.Counter = api.MaxCounter },
		func(d *api.Desk) { d.Left = make([]byte, 495) },
		func(d *api.Desk) { d.Left = slices.Repeat([]byte{1}, 495) },
		func(d *api.Desk) { d.Listener.Master, d.Listener.Ears[6].Next = 255, 255 },
		func(d *api.Desk) { d.Listener.Ears[0] = api.Ear{Next: 0, Rest: make([]byte, api.MaxData+5)} },
		func(d *api.Desk) {
			d.Joins[2] = api.Joined{Apid: 3, Next: api.MaxCount, Open: true, Unit: make([]byte, api.MaxUnit)}
		},
		func(d *api.Desk) { d.Takers = []api.Taker{taker(t, 4), taker(t, 0), taker(t, 65535), taker(t, 2)} },
		func(d *api.Desk) { d.Takers = []api.Taker{taker(t, 4)}; d.Takers[0].Stage = api.Failed },
	}
	for i, change := range changes {
		d := deskWith(t, change)
		if x := mission.Hear(plan(), d, nil); x.Code != api.OK {
			t.Errorf("change %d: Hear: %v", i, x.Code)
		}
		if _, e := mission.Order(plan(), d, []byte("L")); e == api.ErrState || e == api.ErrPlan {
			t.Errorf("change %d: Order: %v", i, e)
		}
	}
}

// wrongDesks: changes by which a desk may not be.
func wrongDesks(t *testing.T) []func(d *api.Desk) {
	l := []func(d *api.Desk){
		func(d *api.Desk) { *d = api.Desk{} },
		func(d *api.Desk) { d.Hand.Craft = 4 },
		func(d *api.Desk) { d.Hand.Ahead = 7 },
		func(d *api.Desk) { d.Hand.Patience = 6 },
		func(d *api.Desk) { d.Hand.Pause = 4 },
		func(d *api.Desk) { d.Hand.Limit = 99 },
		func(d *api.Desk) { d.Hand.Since = 4 },
		func(d *api.Desk) { d.Hand.Timer = 5 },
		func(d *api.Desk) { d.Hand.Halt = api.ErrFull },
		func(d *api.Desk) { d.Hand.Sent = slices.Repeat([][]byte{{1}}, 9) },
		func(d *api.Desk) { d.Hand.Asked = [][]byte{nil} },
		func(d *api.Desk) { d.Key.ID = 256 },
		func(d *api.Desk) { d.Key.Words = nil },
		func(d *api.Desk) { d.Key.Top = -2 },
		func(d *api.Desk) { d.Left = make([]byte, 496) },
		func(d *api.Desk) { d.Left = make([]byte, 100000) },
		func(d *api.Desk) { d.Left = []byte{0, 1, 2} },
		func(d *api.Desk) { d.Left = []byte{255} },
		func(d *api.Desk) { d.Listener.Craft = 6 },
		func(d *api.Desk) { d.Listener.Size = 23 },
		func(d *api.Desk) { d.Listener.Master = 256 },
		func(d *api.Desk) { d.Listener.Ears = d.Listener.Ears[:6] },
		func(d *api.Desk) { d.Listener.Ears[3].Rest = []byte{1} },
		func(d *api.Desk) { d.Joins = d.Joins[:2] },
		func(d *api.Desk) { d.Joins = nil },
		func(d *api.Desk) { d.Joins = append(d.Joins, api.Joined{Apid: 4, Next: -1}) },
		func(d *api.Desk) { slices.Reverse(d.Joins) },
		func(d *api.Desk) { d.Joins[0].Apid = 2 },
		func(d *api.Desk) { d.Joins[1].Next = -2 },
		func(d *api.Desk) { d.Joins[2].Open = true },
		func(d *api.Desk) { d.Takers = []api.Taker{{}} },
		func(d *api.Desk) { d.Takers = []api.Taker{taker(t, 4), taker(t, 5), taker(t, 4)} },
		func(d *api.Desk) {
			d.Takers = []api.Taker{taker(t, 4), taker(t, 5), taker(t, 6), taker(t, 7), taker(t, 8)}
		},
		func(d *api.Desk) { d.Takers = []api.Taker{taker(t, 4)}; d.Takers[0].Stage = api.Over },
		func(d *api.Desk) { d.Takers = []api.Taker{taker(t, 4), taker(t, 5)}; d.Takers[1].Timer = 9 },
	}
	for _, n := range far(0, api.MaxCounter) {
		l = append(l, func(d *api.Desk) { d.Counter = n })
	}
	return l
}

func TestDesksThatMayNotBe(t *testing.T) {
	for i, change := range wrongDesks(t) {
		d := deskWith(t, change)
		if x := mission.Hear(plan(), d, nil); !same(x, api.Sat{Code: api.ErrState}) {
			t.Errorf("change %d: Hear: %v", i, x.Code)
		}
		for _, body := range [][]byte{nil, []byte("L"), make([]byte, 2000)} {
			if o, e := mission.Order(plan(), d, body); e != api.ErrState || !same(o, api.Desk{}) {
				t.Errorf("change %d: Order: %v", i, e)
			}
		}
	}
}

// TestOrders: commands are sealed, each by a new counter, and wait.
func TestOrders(t *testing.T) {
	p := plan()
	d := seated(t, p)
	bodies := []string{"L", "Scool", "", string(make([]byte, api.MaxSealed))}
	var asked [][]byte
	for i, body := range bodies {
		was := d
		var e api.Errno
		d, e = mission.Order(p, d, []byte(body))
		asked = append(asked, sealed(t, key(), i, body))
		want := was
		want.Hand.Asked, want.Counter = asked, i+1
		if e != api.OK || !same(d, want) {
			t.Fatalf("%q: %v %+v", body, e, d)
		}
	}
	d.Counter = api.MaxCounter - 1
	d, e := mission.Order(p, d, []byte("L"))
	if e != api.OK || d.Counter != api.MaxCounter || !slices.Equal(d.Hand.Asked[4], sealed(t, key(), api.MaxCounter-1, "L")) {
		t.Error(e, d)
	}
}

// TestOrdersRefused: the desk is as it was; of several reasons the first one.
func TestOrdersRefused(t *testing.T) {
	full := func(d *api.Desk) { d.Hand.Asked = slices.Repeat([][]byte{{7}}, api.MaxAsked) }
	last := func(d *api.Desk) { d.Counter = api.MaxCounter }
	long, short := make([]byte, api.MaxSealed+1), []byte("L")
	for i, x := range []struct {
		change func(d *api.Desk)
		body   []byte
		want   api.Errno
	}{
		{func(d *api.Desk) {}, long, api.ErrSize}, {full, short, api.ErrFull}, {full, long, api.ErrSize}, {last, short, api.ErrEnd},
		{last, long, api.ErrEnd}, {func(d *api.Desk) { last(d); full(d) }, short, api.ErrEnd},
	} {
		d := deskWith(t, x.change)
		if o, e := mission.Order(plan(), d, x.body); e != x.want || !same(o, d) {
			t.Errorf("case %d: %v, not %v", i, e, x.want)
		}
	}
	// A hand that stands still still takes what is asked.
	if d, e := mission.Order(plan(), deskWith(t, func(d *api.Desk) { d.Hand.Halt = api.ErrEnd }), short); e != api.OK || len(d.Hand.Asked) != 1 {
		t.Error(e)
	}
}
