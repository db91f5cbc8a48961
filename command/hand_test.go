package command_test

import (
	"bytes"
	"fmt"
	"math/rand"
	"reflect"
	"testing"

	"farhail/api"
	"farhail/command"
)

// same: are two hands the same, whether an empty list is nil or not?
func same(a, b api.Hand) bool {
	for _, l := range []*[][]byte{&a.Sent, &a.Asked, &b.Sent, &b.Asked} {
		if len(*l) == 0 {
			*l = nil
		}
	}
	return reflect.DeepEqual(a, b)
}

// sameLists: of bytes.
func sameLists(a, b [][]byte) bool {
	return len(a) == 0 && len(b) == 0 || reflect.DeepEqual(a, b)
}

// bare: of no bytes at all, and with nothing that is told.
func bare(h api.Hand) bool { return same(h, api.Hand{}) }

func TestReady(t *testing.T) {
	for _, a := range [][5]int{{0, 1, 1, 0, 1}, {1023, 127, 1000, 1000, 100}, {5, 8, 5, 3, 100}, {1, 1, 1, 1000, 1}} {
		want := api.Hand{Craft: a[0], Ahead: a[1], Patience: a[2], Pause: a[3], Since: a[3], Limit: a[4]}
		if h, e := command.Ready(a[0], a[1], a[2], a[3], a[4]); e != api.OK || !same(h, want) {
			t.Errorf("%v: %+v %v", a, h, e)
		}
	}
	least, most := [5]int{0, 1, 1, 0, 1}, [5]int{1023, 127, 1000, 1000, 100}
	for i := range 5 {
		for _, n := range far(least[i], most[i]) {
			a := [5]int{5, 8, 5, 3, 10}
			a[i] = n
			if h, e := command.Ready(a[0], a[1], a[2], a[3], a[4]); e != api.ErrRange || !bare(h) {
				t.Errorf("%v: %+v %v", a, h, e)
			}
		}
	}
}

// commands: so many, of one byte.
func commands(n int) [][]byte {
	var l [][]byte
	for i := range n {
		l = append(l, []byte{byte(i)})
	}
	return l
}

// someHand: one that may be, at none of its edges.
func someHand() api.Hand {
	return api.Hand{Craft: 5, Next: 9, Ahead: 3, Sent: commands(2), Asked: commands(4), Timer: 2, Patience: 5, Tries: 1, Limit: 4, Since: 1, Pause: 3, Halt: api.ErrShut}
}

// wrongHands: those that may not be; and the hands at the edges of what may.
func wrongHands() (wrong, edge []api.Hand) {
	with := func(l *[]api.Hand, change func(h *api.Hand)) {
		h := someHand()
		change(&h)
		*l = append(*l, h)
	}
	number := func(least, most int, field func(h *api.Hand) *int, also func(h *api.Hand)) {
		for _, n := range far(least, most) {
			with(&wrong, func(h *api.Hand) { also(h); *field(h) = n })
		}
		for _, n := range []int{least, most} {
			with(&edge, func(h *api.Hand) { also(h); *field(h) = n })
		}
	}
	asIs := func(*api.Hand) {}
	number(0, api.MaxCraft, func(h *api.Hand) *int { return &h.Craft }, asIs)
	number(0, 255, func(h *api.Hand) *int { return &h.Next }, asIs)
	number(1, api.MaxAhead, func(h *api.Hand) *int { return &h.Ahead }, func(h *api.Hand) { h.Sent = nil })
	number(1, api.MaxWait, func(h *api.Hand) *int { return &h.Patience }, func(h *api.Hand) { h.Timer = 0 })
	number(0, api.MaxWait, func(h *api.Hand) *int { return &h.Pause }, func(h *api.Hand) { h.Since = 0 })
	number(1, api.MaxTries, func(h *api.Hand) *int { return &h.Limit }, asIs)
	number(0, 4, func(h *api.Hand) *int { return &h.Timer }, asIs)
	number(0, 4, func(h *api.Hand) *int { return &h.Tries }, asIs)
	number(0, 3, func(h *api.Hand) *int { return &h.Since }, asIs)
	for n := range 5 {
		l := &edge
		if n > 3 {
			l = &wrong
		}
		with(l, func(h *api.Hand) { h.Sent = commands(n) })
	}
	with(&edge, func(h *api.Hand) { h.Ahead, h.Sent = 127, commands(127) })
	with(&wrong, func(h *api.Hand) { h.Ahead, h.Sent = 127, commands(128) })
	with(&edge, func(h *api.Hand) { h.Asked = commands(99) })
	with(&wrong, func(h *api.Hand) { h.Asked = commands(101) })
	for i := range 2 {
		with(&edge, func(h *api.Hand) { h.Sent[i], h.Asked[i] = make([]byte, 1017), make([]byte, 1017) })
		for _, data := range [][]byte{nil, {}, make([]byte, 1018)} {
			with(&wrong, func(h *api.Hand) { h.Sent[i] = data })
			with(&wrong, func(h *api.Hand) { h.Asked[3*i] = data })
		}
	}
	for halt := api.Errno(-1); halt < 25; halt++ {
		l := &wrong
		if halt == api.OK || halt == api.ErrShut || halt == api.ErrState || halt == api.ErrEnd {
			l = &edge
		}
		with(l, func(h *api.Hand) { h.Halt = halt })
	}
	return append(wrong, api.Hand{}), edge
}

func TestWhichHandsMayBe(t *testing.T) {
	wrong, edge := wrongHands()
	for _, h := range wrong {
		for _, data := range [][]byte{{1}, nil} {
			if got, e := command.Ask(h, data); e != api.ErrState || !bare(got) {
				t.Errorf("Ask of %+v: %+v %v", h, got, e)
			}
		}
		if got, up, e := command.Step(h, 0x01000000, true); e != api.ErrState || !bare(got) || len(up) > 0 {
			t.Errorf("Step of %+v: %+v %v %v", h, got, up, e)
		}
		if got, up, e := command.Free(h); e != api.ErrState || !bare(got) || len(up) > 0 {
			t.Errorf("Free of %+v: %+v %v %v", h, got, up, e)
		}
	}
	for _, h := range edge {
		if got, e := command.Ask(h, []byte{1}); e != api.OK || len(got.Asked) != len(h.Asked)+1 {
			t.Errorf("Ask of %+v: %+v %v", h, got, e)
		}
		if got, _, e := command.Step(h, 0, false); e != api.OK || got.Craft != h.Craft {
			t.Errorf("Step of %+v: %+v %v", h, got, e)
		}
		if got, _, e := command.Free(h); e == api.ErrState || got.Craft != h.Craft {
			t.Errorf("Free of %+v: %+v %v", h, got, e)
		}
	}
}

func TestAsk(t *testing.T) {
	for _, halt := range []api.Errno{api.OK, api.ErrShut, api.ErrState, api.ErrEnd} {
		h := someHand()
		h.Halt, h.Asked = halt, nil
		for i := range 100 {
			want := h
			want.Asked = append(bytesCopied(h.Asked), bytes.Repeat([]byte{byte(i)}, 1+i*1016/99))
			got, e := command.Ask(h, want.Asked[i])
			if e != api.OK || !same(got, want) {
				t.Fatalf("%d: %+v %v", i, got, e)
			}
			h = got
		}
		for want, l := range map[api.Errno][][]byte{api.ErrSize: {nil, {}, make([]byte, 1018)}, api.ErrFull: {{1}, make([]byte, 1017)}} {
			for _, data := range l {
				if got, e := command.Ask(h, data); e != want || !same(got, h) {
					t.Errorf("%d bytes: %v", len(data), e)
				}
			}
		}
	}
}

func bytesCopied(l [][]byte) [][]byte {
	var out [][]byte
	for _, b := range l {
		out = append(out, bytes.Clone(b))
	}
	return out
}

func TestFree(t *testing.T) {
	h := someHand()
	for halt, want := range map[api.Errno]api.Errno{api.OK: api.ErrKind, api.ErrState: api.ErrKind, api.ErrShut: api.OK, api.ErrEnd: api.OK} {
		h.Halt = halt
		got, up, e := command.Free(h)
		if want != api.OK {
			if e != want || len(up) > 0 || !same(got, h) {
				t.Errorf("%v: %+v %v %v", halt, got, up, e)
			}
			continue
		}
		free := h
		free.Halt, free.Timer, free.Tries, free.Since = api.OK, 0, 0, h.Pause
		order := slowOrder(api.Order{Craft: 5, Bypass: true, Control: true, Data: []byte{0}})
		if e != api.OK || !same(got, free) || !sameLists(up, [][]byte{order}) {
			t.Errorf("%v: %+v %X %v", halt, got, up, e)
		}
	}
}

// numbered is a command that was sent, with its number.
type numbered struct {
	seq  int
	data []byte
}

// slowHand: what a hand is, its sent ones with their numbers.
type slowHand struct {
	api.Hand
	sent []numbered
	up   [][]byte
}

func (s *slowHand) goesUp(one numbered) {
	s.up = append(s.up, slowOrder(api.Order{Craft: s.Craft, Seq: one.seq, Data: one.data}))
}

// hears: the second part of a tick; false: that is all of it.
func (s *slowHand) hears(g api.Gate) bool {
	there := 0
	for n := (s.Hand.Next + 256 - len(s.sent)) % 256; n != g.Next; n = (n + 1) % 256 {
		there++
	}
	if there > len(s.sent) {
		s.Halt = api.ErrState
		return false
	}
	for range there {
		s.sent, s.Timer, s.Tries = s.sent[1:], 0, 0
	}
	if g.Shut {
		s.Halt = api.ErrShut
		return false
	}
	return true
}

// again: the third part; false: that is all.
func (s *slowHand) again(g *api.Gate) bool {
	if len(s.sent) == 0 {
		s.Timer = 0
		return true
	}
	wished := g != nil && g.Again && !g.Wait && s.Since == s.Pause
	late := s.Timer+1 == s.Patience
	if !wished && !late {
		s.Timer++
		return true
	}
	s.Timer, s.Since = 0, 0
	if s.Tries == s.Limit {
		s.Halt = api.ErrEnd
		return false
	}
	s.Tries++
	for _, one := range s.sent {
		s.goesUp(one)
	}
	return true
}

// tick as the chapter tells it.
func (s *slowHand) tick(status int, heard bool) {
	if s.Halt != api.OK {
		return
	}
	if s.Since < s.Pause {
		s.Since++
	}
	var g *api.Gate
	if told, ok := allReports()[status]; ok && heard {
		g = &told
	}
	if g != nil && !s.hears(*g) || !s.again(g) || g != nil && g.Wait {
		return
	}
	for len(s.sent) < s.Ahead && len(s.Asked) > 0 {
		one := numbered{s.Next, s.Asked[0]}
		s.goesUp(one)
		s.sent, s.Asked, s.Next = append(s.sent, one), s.Asked[1:], (s.Next+1)%256
	}
}

// slowStep: a tick of a hand that may be.
func slowStep(h api.Hand, status int, heard bool) (api.Hand, [][]byte) {
	s := slowHand{Hand: h}
	for i, data := range h.Sent {
		s.sent = append(s.sent, numbered{(h.Next - len(h.Sent) + i + 256) % 256, data})
	}
	s.tick(status, heard)
	s.Sent = nil
	for _, one := range s.sent {
		s.Sent = append(s.Sent, one.data)
	}
	return s.Hand, s.up
}

// steps: is a tick of a hand as the chapter tells it? What comes of it.
func steps(t *testing.T, h api.Hand, status int, heard bool) (api.Hand, [][]byte) {
	t.Helper()
	want, wantUp := slowStep(h, status, heard)
	got, up, e := command.Step(h, status, heard)
	if e != api.OK || !same(got, want) || !sameLists(up, wantUp) {
		t.Fatalf("%+v, %X, %v:\n%+v %X %v, not\n%+v %X", h, status, heard, got, up, e, want, wantUp)
	}
	return got, up
}

// drawnHand: one that may be, near the edges of its numbers.
func drawnHand(r *rand.Rand) api.Hand {
	h := api.Hand{Craft: r.Intn(1024), Next: []int{0, 1, 254, 255, r.Intn(256)}[r.Intn(5)], Ahead: 1 + r.Intn(5), Patience: 1 + r.Intn(3), Limit: 1 + r.Intn(3), Pause: r.Intn(3)}
	h.Sent, h.Asked = commands(r.Intn(h.Ahead+1)), commands(r.Intn(7))
	for _, data := range h.Asked {
		data[0] += 100
	}
	h.Timer, h.Tries, h.Since = r.Intn(h.Patience), r.Intn(h.Limit+1), r.Intn(h.Pause+1)
	if r.Intn(10) == 0 {
		h.Halt = []api.Errno{api.ErrShut, api.ErrState, api.ErrEnd}[r.Intn(3)]
	}
	return h
}

// drawnStatus that a hand may hear; now and then one that it cannot, or that is none.
func drawnStatus(r *rand.Rand, h api.Hand) int {
	g := api.Gate{Next: (h.Next - r.Intn(len(h.Sent)+1) + 256) % 256, Shut: r.Intn(12) == 0, Wait: r.Intn(4) == 0, Again: r.Intn(2) == 0, Count: r.Intn(4)}
	switch r.Intn(12) {
	case 0:
		g.Next = (h.Next + 1 + r.Intn(3)) % 256
	case 1:
		g.Next = (h.Next - len(h.Sent) - 1 - r.Intn(3) + 512) % 256
	case 2:
		return slowReport(g) ^ 1<<r.Intn(40)
	case 3:
		return -slowReport(g)
	}
	return slowReport(g)
}

func TestStep(t *testing.T) {
	r := rand.New(rand.NewSource(74))
	ends := map[string]int{}
	for range 30000 {
		h := drawnHand(r)
		was := h.Halt
		h, up := steps(t, h, drawnStatus(r, h), r.Intn(3) > 0)
		ends[fmt.Sprint(was, h.Halt, len(up) > 0)]++
	}
	for _, want := range []string{"refused 0 refused 0 true", "refused 0 refused 0 false", "refused 0 refused 11 false", "refused 0 refused 15 false", "refused 0 refused 19 false", "refused 19 refused 19 false"} {
		if ends[want] < 10 {
			t.Errorf("hardly tried: %s: %v", want, ends)
		}
	}
}

// TestEveryNumber: whatever number a gate tells, of each number of sent ones, at the ends of the numbers.
func TestEveryNumber(t *testing.T) {
	for _, sent := range []int{0, 1, 2, 100, 127} {
		for _, next := range []int{0, 1, 126, 127, 128, 255} {
			h := api.Hand{Next: next, Ahead: 127, Sent: commands(sent), Patience: 9, Timer: 4, Tries: 1, Limit: 3, Pause: 1}
			for told := range 256 {
				got, up, e := command.Step(h, slowReport(api.Gate{Next: told}), true)
				there := (told - next + sent + 512) % 256
				if e != api.OK || len(up) > 0 || (got.Halt == api.ErrState) != (there > sent) || got.Since != 1 {
					t.Fatalf("%d sent up to %d, %d told: %+v %v", sent, next, told, got, e)
				}
				if there <= sent && (got.Halt != api.OK || !sameLists(got.Sent, h.Sent[there:])) {
					t.Fatalf("%d sent up to %d, %d told: %+v", sent, next, told, got)
				}
				if there > sent && !sameLists(got.Sent, h.Sent) {
					t.Fatalf("%d sent up to %d, %d told: %+v", sent, next, told, got)
				}
			}
		}
	}
}

// ups: of craft 5, orders of these numbers and one byte each.
func ups(pairs ...int) [][]byte {
	var out [][]byte
	for i := 0; i < len(pairs); i += 2 {
		out = append(out, slowOrder(api.Order{Craft: 5, Seq: pairs[i], Data: []byte{byte(pairs[i+1])}}))
	}
	return out
}

// TestATale: a hand with its own numbers, told tick by tick.
func TestATale(t *testing.T) {
	h, _ := command.Ready(5, 2, 3, 2, 1)
	h.Next = 254
	for i := range 4 {
		h, _ = command.Ask(h, []byte{byte(10 + i)})
	}
	tick := func(what string, g *api.Gate, want [][]byte, next, timer, tries, since int, halt api.Errno) {
		t.Helper()
		status := 0
		if g != nil {
			status = slowReport(*g)
		}
		var up [][]byte
		h, up = steps(t, h, status, g != nil)
		if !sameLists(up, want) || h.Next != next || h.Timer != timer || h.Tries != tries || h.Since != since || h.Halt != halt {
			t.Fatalf("%s: %+v %X", what, h, up)
		}
	}
	tick("two go up, more are not ahead", nil, ups(254, 10, 255, 11), 0, 0, 0, 2, api.OK)
	tick("nothing is heard", nil, nil, 0, 1, 0, 2, api.OK)
	tick("a first one is there", &api.Gate{Next: 255}, ups(0, 12), 1, 1, 0, 2, api.OK)
	tick("again is wished", &api.Gate{Next: 255, Again: true}, ups(255, 11, 0, 12), 1, 0, 1, 0, api.OK)
	tick("and once more, too soon", &api.Gate{Next: 255, Again: true}, nil, 1, 1, 1, 1, api.OK)
	tick("now it counts, but the limit is there", &api.Gate{Next: 255, Again: true}, nil, 1, 0, 1, 0, api.ErrEnd)
	tick("it stands still", &api.Gate{Next: 1}, nil, 1, 0, 1, 0, api.ErrEnd)
	var up [][]byte
	h, up, _ = command.Free(h)
	if h.Halt != api.OK || h.Since != 2 || h.Tries != 0 || len(up) != 1 {
		t.Fatalf("%+v %X", h, up)
	}
	tick("no room: nothing goes up", &api.Gate{Next: 0, Again: true, Wait: true}, nil, 1, 1, 0, 2, api.OK)
	tick("still none", &api.Gate{Next: 0, Again: true, Wait: true}, nil, 1, 2, 0, 2, api.OK)
	tick("till patience ends, in spite of it", &api.Gate{Next: 0, Again: true, Wait: true}, ups(0, 12), 1, 0, 1, 0, api.OK)
	tick("all are there", &api.Gate{Next: 1, Wait: true}, nil, 1, 0, 0, 1, api.OK)
	tick("the last one", nil, ups(1, 13), 2, 0, 0, 2, api.OK)
	tick("it is shut, though one is there", &api.Gate{Next: 2, Shut: true}, nil, 2, 0, 0, 2, api.ErrShut)
	if len(h.Sent)+len(h.Asked) > 0 {
		t.Errorf("%+v", h)
	}
}

// roomyHand: with spare room in each list, which is full.
func roomyHand(r *rand.Rand, h api.Hand) api.Hand {
	for _, l := range []*[][]byte{&h.Sent, &h.Asked} {
		n := len(*l)
		for range 8 {
			*l = append(*l, some(r, 3))
		}
		for i, b := range *l {
			(*l)[i] = roomy(b)
		}
		*l = (*l)[:n]
	}
	return h
}

func TestHandsApart(t *testing.T) {
	r := rand.New(rand.NewSource(75))
	for range 200 {
		h, data := roomyHand(r, drawnHand(r)), roomy(some(r, r.Intn(3)))
		apart(t, "Ask", []any{h, data}, func() []any {
			got, _ := command.Ask(h, data)
			return []any{got}
		})
		status, heard := drawnStatus(r, h), r.Intn(3) > 0
		apart(t, "Step", []any{h}, func() []any {
			got, up, _ := command.Step(h, status, heard)
			return []any{got, up}
		})
		apart(t, "Free", []any{h}, func() []any {
			got, up, _ := command.Free(h)
			return []any{got, up}
		})
	}
}

// link is a hand and a gate, with what was asked for and what was let in.
type link struct {
	h       api.Hand
	g       api.Gate
	asked   [][]byte
	let     [][]byte
	past    []api.Order
	status  int
	heard   bool
	halting map[api.Errno]int
}

// come: an order comes up; what is let in goes behind the others.
func (k *link) come(t *testing.T, o api.Order, room bool) api.Errno {
	t.Helper()
	g, let, e := command.Accept(k.g, o, room)
	k.g = g
	if let {
		k.let, k.past = append(k.let, o.Data), append(k.past, o)
		if n := len(k.let); n > len(k.asked) || !bytes.Equal(k.let[n-1], k.asked[n-1]) {
			t.Fatalf("let in as the %dth: %X", n, o.Data)
		}
	}
	return e
}

// oldOnes come once more, not further behind than Half.
func (k *link) oldOnes(t *testing.T, r *rand.Rand) {
	n := min(len(k.past), k.g.Half)
	if n == 0 || k.g.Shut {
		return
	}
	was := k.g
	for _, back := range []int{1, n, 1 + r.Intn(n)} {
		if e := k.come(t, k.past[len(k.past)-back], true); e != api.ErrOld || k.g != was {
			t.Fatalf("%d behind: %v %+v, was %+v", back, e, k.g, was)
		}
	}
}

// tick: of a hundred so many are lost, on each way, and so often there is no room.
func (k *link) tick(t *testing.T, r *rand.Rand, lost, full int, free bool) {
	t.Helper()
	h, up, e := command.Step(k.h, k.status, k.heard)
	k.h = h
	if h.Halt != api.OK {
		k.halting[h.Halt]++
		if free {
			k.h, up, e = command.Free(h)
		}
	}
	if e != api.OK {
		t.Fatal(e)
	}
	for _, b := range up {
		if r.Intn(100) < lost {
			continue
		}
		o, e := command.Decode(b)
		if e != api.OK {
			t.Fatal(e)
		}
		k.come(t, o, r.Intn(100) >= full)
	}
	if lost > 0 && r.Intn(5) == 0 {
		k.oldOnes(t, r)
	}
	k.status, _ = command.Report(k.g)
	k.heard = r.Intn(100) >= lost
}

// TestOnceAndInOrder: what comes of it.
func TestOnceAndInOrder(t *testing.T) {
	r := rand.New(rand.NewSource(76))
	ended := map[bool]int{}
	halting := map[api.Errno]int{}
	for round := range 150 {
		k := link{halting: halting}
		ahead := 1 + []int{r.Intn(4), r.Intn(20), r.Intn(127)}[r.Intn(3)]
		k.h, _ = command.Ready(5, ahead, 1+r.Intn(6), r.Intn(5), 1+r.Intn(4))
		k.g, _ = command.Guard(5, 1+r.Intn(127))
		lost, full := r.Intn(80), r.Intn(60)
		ask := func(n int) {
			for range n {
				data := some(r, 1+r.Intn(4))
				if h, e := command.Ask(k.h, data); e == api.OK {
					k.h, k.asked = h, append(k.asked, data)
				}
			}
		}
		for range 60 {
			ask(r.Intn(12))
			k.tick(t, r, lost, full, true)
		}
		free := round%2 == 0
		for range 1000 {
			k.tick(t, r, 0, 0, free)
		}
		if whole := len(k.let) == len(k.asked); whole != (k.h.Halt == api.OK) || free && !whole {
			t.Fatalf("%d asked for, %d let in: %+v", len(k.asked), len(k.let), k.h)
		}
		ended[k.h.Halt == api.OK]++
	}
	if ended[true] < 10 || ended[false] < 10 || halting[api.ErrShut] < 10 || halting[api.ErrEnd] < 10 || halting[api.ErrState] > 0 {
		t.Errorf("ended: %v, stood still: %v", ended, halting)
	}
}
