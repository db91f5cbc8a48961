package frame_test

import (
	"bytes"
	"fmt"
	"math"
	"math/rand"
	"reflect"
	"testing"

	"farhail/api"
	"farhail/frame"
	"farhail/packet"
)

// pack: the bytes of a packet that may be.
func pack(apid, count int, data []byte) []byte {
	b, e := packet.Encode(api.Packet{Apid: apid, Part: api.Whole, Count: count, Data: data})
	if e != api.OK {
		panic(e)
	}
	return b
}

// equal senders, whose lists may be nil or empty.
func equal(a, b api.Sender) bool {
	return fmt.Sprint(a) == fmt.Sprint(b)
}

// open: a sender that must be.
func open(t *testing.T, craft, size int) api.Sender {
	t.Helper()
	s, e := frame.Open(craft, size)
	if e != api.OK {
		t.Fatal(e)
	}
	return s
}

// put: a packet that must be taken.
func put(t *testing.T, s api.Sender, channel int, b []byte) api.Sender {
	t.Helper()
	s, e := frame.Put(s, channel, b)
	if e != api.OK {
		t.Fatal(channel, b, e)
	}
	return s
}

func TestOpen(t *testing.T) {
	for _, craft := range []int{0, 1, api.MaxCraft} {
		for _, size := range []int{api.MinFrame, 100, api.MaxFrame} {
			s := open(t, craft, size)
			want := api.Sender{Craft: craft, Size: size, Queues: make([]api.Queue, 7)}
			if !equal(s, want) {
				t.Errorf("%d %d: %+v", craft, size, s)
			}
		}
	}
	for _, size := range []int{100, 0, -1, math.MaxInt} {
		for _, craft := range far(api.MaxCraft) {
			if s, e := frame.Open(craft, size); e != api.ErrRange || !reflect.DeepEqual(s, api.Sender{}) {
				t.Errorf("%d %d: %+v %v", craft, size, s, e)
			}
		}
	}
	for _, size := range []int{12, 0, -1, 2049, math.MinInt, math.MaxInt} {
		if s, e := frame.Open(3, size); e != api.ErrSize || !reflect.DeepEqual(s, api.Sender{}) {
			t.Errorf("%d: %+v %v", size, s, e)
		}
	}
}

// goodSender: one that may be, with something in many of its fields.
func goodSender() api.Sender {
	s := api.Sender{Craft: 1023, Size: 2048, Master: 255, Turn: 6, Queues: make([]api.Queue, 7)}
	s.Queues[2] = api.Queue{Own: 255, Packets: [][]byte{pack(5, 0, []byte{1, 2}), pack(2047, 1, []byte{3})}, Gone: 7}
	s.Queues[4] = api.Queue{Packets: [][]byte{pack(5, 0, []byte{1, 2})}}
	s.Queues[6].Packets = [][]byte{}
	for range api.MaxWaiting {
		s.Queues[6].Packets = append(s.Queues[6].Packets, pack(6, 6, []byte{6}))
	}
	return s
}

// badSenders: what changes a good sender to one that may not be.
func badSenders() []func(*api.Sender) {
	var out []func(*api.Sender)
	add := func(change func(*api.Sender)) { out = append(out, change) }
	for _, n := range far(api.MaxCraft) {
		add(func(s *api.Sender) { s.Craft = n })
	}
	for _, n := range []int{12, 0, -1, 2049, math.MinInt, math.MaxInt} {
		add(func(s *api.Sender) { s.Size = n })
	}
	for _, n := range far(255) {
		add(func(s *api.Sender) { s.Master = n })
		add(func(s *api.Sender) { s.Queues[0].Own = n })
		add(func(s *api.Sender) { s.Queues[6].Own = n })
	}
	for _, n := range far(api.MaxChannel) {
		add(func(s *api.Sender) { s.Turn = n })
	}
	for _, n := range []int{0, 1, 6, 8} {
		add(func(s *api.Sender) { s.Queues = append(s.Queues, api.Queue{})[:n] })
	}
	add(func(s *api.Sender) { s.Queues = nil })
	for _, n := range far(0) {
		add(func(s *api.Sender) { s.Queues[0].Gone = n })
		add(func(s *api.Sender) { s.Queues[0].Gone, s.Queues[0].Packets = n, [][]byte{} })
	}
	for _, n := range far(7) {
		add(func(s *api.Sender) { s.Queues[2].Gone = n })
	}
	add(func(s *api.Sender) { s.Queues[6].Packets = append(s.Queues[6].Packets, pack(6, 6, []byte{6})) })
	for _, b := range notOne() {
		add(func(s *api.Sender) { s.Queues[2].Packets[0], s.Queues[2].Gone = b, 0 })
		add(func(s *api.Sender) { s.Queues[2].Packets[1] = b })
		add(func(s *api.Sender) { s.Queues[6].Packets[199] = b })
	}
	return out
}

// notOne: bytes that are not those of just one packet.
func notOne() [][]byte {
	whole := pack(5, 7, []byte{1, 2, 3})
	out := [][]byte{nil, {}, whole[:1], whole[:5], whole[:6], whole[:8], append(bytes.Clone(whole), 0), append(bytes.Clone(whole), whole...)}
	for _, bit := range []byte{0x80, 0x40, 0x20} {
		b := bytes.Clone(whole)
		b[0] |= bit
		out = append(out, b)
	}
	long := pack(5, 7, make([]byte, api.MaxData))
	return append(out, long[:len(long)-1], append(long, 0))
}

func TestSendersThatMayNotBe(t *testing.T) {
	s := goodSender()
	if _, e := frame.Put(s, 1, pack(1, 1, []byte{1})); e != api.OK {
		t.Fatal(e)
	}
	if _, _, e := frame.Next(s, 1); e != api.OK {
		t.Fatal(e)
	}
	for i, change := range badSenders() {
		s := goodSender()
		change(&s)
		for _, channel := range []int{1, 6, -1, 7} {
			for _, b := range [][]byte{pack(1, 1, []byte{1}), nil} {
				if got, e := frame.Put(s, channel, b); e != api.ErrState || !reflect.DeepEqual(got, api.Sender{}) {
					t.Errorf("Put, sender %d: %v %v", i, got.Craft, e)
				}
			}
		}
		for _, status := range []int{0, -1} {
			if got, b, e := frame.Next(s, status); e != api.ErrState || len(b) != 0 || !reflect.DeepEqual(got, api.Sender{}) {
				t.Errorf("Next, sender %d: %v %X %v", i, got.Craft, b, e)
			}
		}
	}
	if got, e := frame.Put(api.Sender{}, 0, pack(1, 1, []byte{1})); e != api.ErrState || !reflect.DeepEqual(got, api.Sender{}) {
		t.Errorf("the zero sender: %v", e)
	}
}

func TestPut(t *testing.T) {
	r := rand.New(rand.NewSource(65))
	s := open(t, 9, 20)
	want := make([][][]byte, 7)
	for i := range 7 * 60 {
		channel := r.Intn(7)
		b := pack(r.Intn(2048), i, some(r, 1+r.Intn(20)))
		s = put(t, s, channel, b)
		want[channel] = append(want[channel], b)
		for c, q := range s.Queues {
			if q.Own != 0 || q.Gone != 0 || fmt.Sprint(q.Packets) != fmt.Sprint(want[c]) {
				t.Fatalf("packet %d, channel %d: %+v", i, c, q)
			}
		}
		if s.Craft != 9 || s.Size != 20 || s.Master != 0 || s.Turn != 0 || len(s.Queues) != 7 {
			t.Fatalf("packet %d: %+v", i, s)
		}
	}
	long := pack(5, 7, some(r, api.MaxData))
	s = put(t, open(t, 9, 20), 6, long)
	if l := s.Queues[6].Packets; len(l) != 1 || !bytes.Equal(l[0], long) {
		t.Error("the longest packet waits as another one")
	}
}

func TestPutRefuses(t *testing.T) {
	try := func(want api.Errno, channel int, b []byte) {
		t.Helper()
		s := goodSender()
		if got, e := frame.Put(s, channel, b); e != want || !equal(got, goodSender()) {
			t.Errorf("%d, %d bytes: %v, not %v", channel, len(b), e, want)
		}
	}
	good := pack(1, 1, []byte{1})
	for _, n := range far(api.MaxChannel) {
		try(api.ErrRange, n, good)
		try(api.ErrRange, n, nil)
	}
	for _, b := range notOne() {
		try(api.ErrForm, 0, b)
		try(api.ErrForm, 6, b)
	}
	try(api.ErrFull, 6, good)
	s := open(t, 1, 13)
	for i := range api.MaxWaiting {
		s = put(t, s, 3, pack(1, i, []byte{1}))
	}
	if got, e := frame.Put(s, 3, good); e != api.ErrFull || !equal(got, s) {
		t.Error(e)
	}
	put(t, s, 4, good)
	s, _, _ = frame.Next(s, 0)
	if _, e := frame.Put(s, 3, good); e != api.ErrFull {
		t.Error("a packet of which a byte is gone waits still:", e)
	}
	for range 6 {
		s, _, _ = frame.Next(s, 0)
	}
	s = put(t, s, 3, good)
	if n := len(s.Queues[3].Packets); n != api.MaxWaiting {
		t.Error(n)
	}
}

func TestNextRefuses(t *testing.T) {
	for _, n := range far(4294967295) {
		s, b, e := frame.Next(goodSender(), n)
		if e != api.ErrRange || len(b) != 0 || !equal(s, goodSender()) {
			t.Errorf("%d: %X %v", n, b, e)
		}
	}
	for _, n := range []int{0, 1, 4294967295} {
		_, b, e := frame.Next(goodSender(), n)
		if _, _, status, f := frame.Unpack(b); e != api.OK || f != api.OK || status != n {
			t.Errorf("%d: %v %v %d", n, e, f, status)
		}
	}
}

func TestExample(t *testing.T) {
	s := put(t, open(t, 1, 15), 2, []byte{0, 5, 0xC0, 0, 0, 0, 0xAA})
	for i, want := range []struct {
		first int
		data  []byte
		waits int
		gone  int
	}{
		{0, []byte{0, 5, 0xC0}, 1, 3},
		{api.NoFirst, []byte{0, 0, 0}, 1, 6},
		{1, []byte{0xAA, 0x07, 0xFF}, 1, 2},
		{api.NoFirst, []byte{0xC0, 0, 0}, 1, 5},
		{2, []byte{0, 0, 0x07}, 1, 1},
		{api.NoFirst, []byte{0xFF, 0xC0, 0}, 1, 4},
		{api.NoFirst, []byte{0, 0, 0}, 0, 0},
	} {
		var b []byte
		var e api.Errno
		s, b, e = frame.Next(s, 77)
		head := api.Head{Craft: 1, Channel: 2, Master: i, Own: i, First: want.first}
		if e != api.OK || !bytes.Equal(b, slowFrame(head, want.data, 77)) {
			t.Errorf("frame %d: %X %v", i, b, e)
		}
		if q := s.Queues[2]; len(q.Packets) != want.waits || q.Gone != want.gone || q.Own != i+1 || s.Master != i+1 || s.Turn != 3 {
			t.Errorf("behind frame %d: %+v", i, s)
		}
	}
	s, b, e := frame.Next(s, 78)
	fill := api.Head{Craft: 1, Channel: api.FillChannel, Master: 7, First: api.OnlyFill}
	if e != api.OK || !bytes.Equal(b, slowFrame(fill, make([]byte, 3), 78)) || s.Master != 8 || s.Turn != 3 {
		t.Errorf("what only fills: %X %v %+v", b, e, s)
	}
}

// tagged: a byte that waits; whether a packet begins with it; of which one it is (-1: one that fills).
type tagged struct {
	x      byte
	begins bool
	of     int
}

// slowSender: the chapter's words about byte behind byte.
type slowSender struct {
	size, master, turn int
	own                [7]int
	waits              [7][]tagged
}

// put the bytes of a packet behind all others.
func (s *slowSender) put(channel, of int, b []byte) {
	for i, x := range b {
		s.waits[channel] = append(s.waits[channel], tagged{x, i == 0, of})
	}
}

// next: the next frame's head (without Craft) and bytes.
func (s *slowSender) next() (h api.Head, data []tagged) {
	room := s.size - 12
	h = api.Head{Channel: 7, Master: s.master, First: 2046}
	s.master = (s.master + 1) % 256
	for i := range 7 {
		c := (s.turn + i) % 7
		if len(s.waits[c]) == 0 {
			continue
		}
		h.Channel, h.Own, h.First = c, s.own[c], 2047
		s.own[c] = (s.own[c] + 1) % 256
		s.turn = (c + 1) % 7
		if missing := room - len(s.waits[c]); missing > 0 {
			fill := append([]byte{0x07, 0xFF, 0xC0, 0, 0, byte(max(missing, 7) - 7)}, make([]byte, max(missing, 7)-6)...)
			fill[4] = byte((max(missing, 7) - 7) / 256)
			s.put(c, -1, fill)
		}
		data, s.waits[c] = s.waits[c][:room], s.waits[c][room:]
		for at := room - 1; at >= 0; at-- {
			if data[at].begins {
				h.First = at
			}
		}
		return h, data
	}
	for range room {
		data = append(data, tagged{of: -1})
	}
	return h, data
}

// plainBytes of tagged ones.
func plainBytes(l []tagged) []byte {
	var out []byte
	for _, x := range l {
		out = append(out, x.x)
	}
	return out
}

// TestNext: frames of many sizes, against the slow sender.
func TestNext(t *testing.T) {
	r := rand.New(rand.NewSource(66))
	for round := range 80 {
		size := 13 + round%40
		if round%10 == 9 {
			size = 13 + r.Intn(2036)
		}
		s, slow := open(t, 9, size), &slowSender{size: size}
		busy := r.Intn(5)
		for i := range 600 {
			if r.Intn(8) < busy {
				c, b := r.Intn(7), pack(r.Intn(2048), i, some(r, 1+r.Intn(1+size)))
				if len(s.Queues[c].Packets) == api.MaxWaiting {
					continue
				}
				s = put(t, s, c, b)
				slow.put(c, i, b)
				continue
			}
			h, data := slow.next()
			h.Craft = 9
			var b []byte
			var e api.Errno
			s, b, e = frame.Next(s, i)
			if e != api.OK || !bytes.Equal(b, slowFrame(h, plainBytes(data), i)) {
				t.Fatalf("size %d, step %d: %X %v, not %X", size, i, b, e, slowFrame(h, plainBytes(data), i))
			}
			agree(t, s, slow)
		}
	}
}

// agree: does a sender stand as the slow one does?
func agree(t *testing.T, s api.Sender, slow *slowSender) {
	t.Helper()
	if s.Craft != 9 || s.Size != slow.size || s.Master != slow.master || s.Turn != slow.turn || len(s.Queues) != 7 {
		t.Fatalf("%+v", s)
	}
	for c, q := range s.Queues {
		all := bytes.Join(q.Packets, nil)
		if q.Own != slow.own[c] || !bytes.Equal(all[q.Gone:], plainBytes(slow.waits[c])) {
			t.Fatalf("channel %d: %+v", c, q)
		}
		if len(q.Packets) == 0 && q.Gone != 0 || len(q.Packets) > 0 && q.Gone >= len(q.Packets[0]) {
			t.Fatalf("channel %d may not be: %+v", c, q)
		}
	}
}

// TestFill: of each number of missing bytes, what fills.
func TestFill(t *testing.T) {
	for missing := range 30 {
		s := put(t, open(t, 9, 12+7+missing), 0, pack(5, 0, []byte{1}))
		s, b, e := frame.Next(s, 0)
		h, data, _, _ := frame.Unpack(b)
		if e != api.OK || h.First != 0 || h.Channel != 0 || len(data) != 7+missing {
			t.Fatalf("%d: %+v %X %v", missing, h, data, e)
		}
		fill, _ := packet.Fill(max(missing, 7))
		if !bytes.Equal(data[7:], fill[:missing]) {
			t.Errorf("%d: %X", missing, data)
		}
		q := s.Queues[0]
		if missing == 0 || missing >= 7 {
			if len(q.Packets) != 0 || q.Gone != 0 {
				t.Errorf("%d: %+v waits", missing, q)
			}
		} else if len(q.Packets) != 1 || !bytes.Equal(q.Packets[0], fill) || q.Gone != missing {
			t.Errorf("%d: %+v waits", missing, q)
		}
	}
}

// TestTurns: the channels for which something waits have their turn one behind the other.
func TestTurns(t *testing.T) {
	for turn := range 7 {
		for set := range 128 {
			s := open(t, 9, 13)
			s.Turn = turn
			var want []int
			for c := range 7 {
				if set>>c&1 == 1 {
					s = put(t, s, c, pack(5, 0, make([]byte, 20)))
				}
				if c := (turn + c) % 7; set>>c&1 == 1 {
					want = append(want, c)
				}
			}
			for i := range 15 {
				var b []byte
				s, b, _ = frame.Next(s, 0)
				h, _, _, e := frame.Unpack(b)
				channel, next := 7, turn
				if len(want) > 0 {
					channel = want[i%len(want)]
					next = (channel + 1) % 7
				}
				if e != api.OK || h.Channel != channel || s.Turn != next {
					t.Fatalf("set %b, turn %d, frame %d: channel %d, then %d", set, turn, i, h.Channel, s.Turn)
				}
			}
		}
	}
}

// TestNumbers: they come round; FillChannel has none of its own.
func TestNumbers(t *testing.T) {
	s := put(t, open(t, 9, 13), 1, pack(5, 0, make([]byte, 700)))
	s = put(t, s, 4, pack(5, 0, make([]byte, 300)))
	own := map[int]int{}
	for i := range 1500 {
		var b []byte
		s, b, _ = frame.Next(s, 0)
		h, _, _, e := frame.Unpack(b)
		want := own[h.Channel] % 256
		if h.Channel == 7 {
			want = 0
		}
		if e != api.OK || h.Master != i%256 || h.Own != want || s.Master != (i+1)%256 {
			t.Fatalf("frame %d: %+v %v", i, h, e)
		}
		own[h.Channel]++
	}
	if own[1] != 706 || own[4] != 306 || own[7] != 1500-706-306 {
		t.Error(own)
	}
}

func TestSendApart(t *testing.T) {
	r := rand.New(rand.NewSource(67))
	sender := func() api.Sender {
		s := goodSender()
		for _, q := range s.Queues {
			for i := range q.Packets {
				q.Packets[i] = roomy(q.Packets[i])
			}
		}
		s.Queues[6].Packets = s.Queues[6].Packets[:20]
		s.Queues[1].Packets = [][]byte{pack(5, 0, some(r, 9)), pack(6, 0, some(r, 9))}[:0]
		return s
	}
	for _, size := range []int{13, 15, 20, 30, 2048} {
		for turn := range 7 {
			for _, status := range []int{0, -1} {
				s := sender()
				s.Size, s.Turn = size, turn
				apart(t, fmt.Sprint("Next ", size, turn, status), []any{s}, func() []any {
					out, b, _ := frame.Next(s, status)
					return []any{out, b}
				})
			}
		}
	}
	for _, channel := range []int{1, 2, 4, 6, 7} {
		for _, b := range [][]byte{roomy(pack(5, 0, some(r, 9))), roomy([]byte{1})} {
			s := sender()
			apart(t, fmt.Sprint("Put ", channel, b), []any{s, b}, func() []any {
				out, _ := frame.Put(s, channel, b)
				return []any{out}
			})
		}
	}
}
