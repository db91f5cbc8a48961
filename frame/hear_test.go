package frame_test

import (
	"bytes"
	"fmt"
	"math"
	"math/rand"
	"reflect"
	"testing"

	"farhail/api"
	"farhail/frame"
	"farhail/packet"
)

// listen: a listener that must be.
func listen(t *testing.T, craft, size int) api.Listener {
	t.Helper()
	l, e := frame.Listen(craft, size)
	if e != api.OK {
		t.Fatal(e)
	}
	return l
}

func TestListen(t *testing.T) {
	for _, craft := range []int{0, 1, api.MaxCraft} {
		for _, size := range []int{api.MinFrame, 100, api.MaxFrame} {
			l := listen(t, craft, size)
			if l.Craft != craft || l.Size != size || l.Master != -1 || len(l.Ears) != 7 {
				t.Errorf("%d %d: %+v", craft, size, l)
			}
			for c, ear := range l.Ears {
				if ear.Next != -1 || len(ear.Rest) != 0 {
					t.Errorf("%d %d, ear %d: %+v", craft, size, c, ear)
				}
			}
		}
	}
	for _, size := range []int{100, 0, -1, math.MaxInt} {
		for _, craft := range far(api.MaxCraft) {
			if l, e := frame.Listen(craft, size); e != api.ErrRange || !reflect.DeepEqual(l, api.Listener{}) {
				t.Errorf("%d %d: %+v %v", craft, size, l, e)
			}
		}
	}
	for _, size := range []int{12, 0, -1, 2049, math.MinInt, math.MaxInt} {
		if l, e := frame.Listen(3, size); e != api.ErrSize || !reflect.DeepEqual(l, api.Listener{}) {
			t.Errorf("%d: %+v %v", size, l, e)
		}
	}
}

// goodListener: one that may be, with something in many of its fields.
func goodListener() api.Listener {
	l := api.Listener{Craft: 3, Size: 20, Master: 255, Ears: make([]api.Ear, 7)}
	l.Ears[1] = api.Ear{Next: 255, Rest: []byte{0xFF, 1, 2}}
	l.Ears[2] = api.Ear{Next: 4, Rest: make([]byte, api.MaxData+5)}
	l.Ears[3] = api.Ear{Next: -1}
	l.Ears[4] = api.Ear{Next: -1, Rest: []byte{}}
	return l
}

func TestListenersThatMayNotBe(t *testing.T) {
	good := slowFrame(api.Head{Craft: 3, Channel: 1}, make([]byte, 8), 9)
	if _, _, _, _, e := frame.Hear(goodListener(), good); e != api.OK {
		t.Fatal(e)
	}
	try := func(change func(*api.Listener)) {
		t.Helper()
		l := goodListener()
		change(&l)
		for _, b := range [][]byte{good, nil, good[1:]} {
			got, h, lost, status, e := frame.Hear(l, b)
			if e != api.ErrState || len(h) != 0 || lost != 0 || status != 0 || !reflect.DeepEqual(got, api.Listener{}) {
				t.Errorf("%d %d %d (%d ears): %v", l.Craft, l.Size, l.Master, len(l.Ears), e)
			}
		}
	}
	for _, n := range far(api.MaxCraft) {
		try(func(l *api.Listener) { l.Craft = n })
	}
	for _, n := range []int{12, 0, -1, 2049, math.MinInt, math.MaxInt} {
		try(func(l *api.Listener) { l.Size = n })
	}
	for _, n := range []int{-2, 256, math.MinInt, math.MaxInt} {
		try(func(l *api.Listener) { l.Master = n })
		for c := range 7 {
			try(func(l *api.Listener) { l.Ears[c].Next = n })
		}
	}
	for _, n := range []int{0, 1, 6, 8} {
		try(func(l *api.Listener) { l.Ears = append(l.Ears, api.Ear{})[:n] })
	}
	try(func(l *api.Listener) { l.Ears = nil })
	for c := range 7 {
		try(func(l *api.Listener) { l.Ears[c] = api.Ear{Next: 3, Rest: make([]byte, api.MaxData+6)} })
		try(func(l *api.Listener) { l.Ears[c] = api.Ear{Next: -1, Rest: []byte{0}} })
	}
	try(func(l *api.Listener) { *l = api.Listener{} })
}

func TestHearRefuses(t *testing.T) {
	try := func(want api.Errno, b []byte) {
		t.Helper()
		l, h, lost, status, e := frame.Hear(goodListener(), b)
		if e != want || len(h) != 0 || lost != 0 || status != 0 || fmt.Sprint(l) != fmt.Sprint(goodListener()) {
			t.Errorf("%X: %v %d %d %v, not %v", b, h, lost, status, e, want)
		}
	}
	spoilt := func(b []byte) []byte {
		b = bytes.Clone(b)
		b[2] ^= 1
		return b
	}
	formless := func(b []byte) []byte {
		b = bytes.Clone(b[:len(b)-2])
		b[0] |= 0x80
		return summed(b)
	}
	try(api.ErrSize, nil)
	try(api.ErrSize, make([]byte, 12))
	try(api.ErrSize, make([]byte, 2049))
	for _, craft := range []int{2, 3} {
		for _, channel := range []int{1, 7} {
			for _, n := range []int{1, 7, 8, 9, 2036} {
				b := slowFrame(api.Head{Craft: craft, Channel: channel, Master: 8, Own: 255}, make([]byte, n), 9)
				try(api.ErrSum, spoilt(b))
				try(api.ErrForm, formless(b))
				if n != 8 {
					try(api.ErrSize, b)
				} else if craft != 3 {
					try(api.ErrName, b)
				}
			}
		}
	}
}

// parse: which packet do bytes begin with? ok: 1 whole, 0 not yet, -1 never.
func parse(b []byte) (p api.Packet, n, ok int) {
	if len(b) < 6 {
		return p, 0, 0
	}
	if b[0] >= 0x20 {
		return p, 0, -1
	}
	n = 7 + 256*int(b[4]) + int(b[5])
	if len(b) < n {
		return p, 0, 0
	}
	p = api.Packet{
		Up:     b[0]&0x10 != 0,
		Second: b[0]&0x08 != 0,
		Apid:   256*int(b[0]&7) + int(b[1]),
		Part:   api.Part(b[2] / 64),
		Count:  256*int(b[2]%64) + int(b[3]),
		Data:   b[6:n],
	}
	return p, n, 1
}

// slowHear: the chapter's four steps, word for word, of a frame that the listener's craft sent.
func slowHear(l api.Listener, h api.Head, data []byte) (api.Listener, []api.Heard, int) {
	ears := append([]api.Ear{}, l.Ears...)
	lost := 0
	if l.Master != -1 {
		for n := l.Master; n != h.Master; n = (n + 1) % 256 {
			lost++
		}
	}
	l.Master, l.Ears = (h.Master+1)%256, ears
	if h.Channel == 7 {
		return l, nil, lost
	}
	ear := &ears[h.Channel]
	if ear.Next != -1 && ear.Next != h.Own {
		ear.Rest = nil
	}
	ear.Next = (h.Own + 1) % 256
	rest := ear.Rest
	ear.Rest = nil
	all := append(append([]byte{}, rest...), data...)
	if h.First == 2047 {
		if len(rest) == 0 {
			all = nil
		}
	} else if h.First >= len(data) {
		all = nil
	} else if len(rest) == 0 {
		all = data[h.First:]
	} else {
		at, row := 0, all[:len(rest)+h.First]
		for _, n, ok := parse(row); ok == 1; _, n, ok = parse(row[at:]) {
			at += n
		}
		if at != len(row) {
			all = data[h.First:]
		}
	}
	var out []api.Heard
	for {
		p, n, ok := parse(all)
		if ok == 0 {
			ear.Rest = all
		}
		if ok != 1 {
			return l, out, lost
		}
		if p.Apid != 2047 {
			out = append(out, api.Heard{Channel: h.Channel, Packet: p})
		}
		all = all[n:]
	}
}

// hears: does a frame come as the chapter has it?
func hears(t *testing.T, l api.Listener, h api.Head, data []byte, status int) (api.Listener, []api.Heard) {
	t.Helper()
	h.Craft = l.Craft
	want, heard, lost := slowHear(l, h, data)
	got, told, n, s, e := frame.Hear(l, slowFrame(h, data, status))
	if e != api.OK || s != status || n != lost || fmt.Sprint(got) != fmt.Sprint(want) || fmt.Sprint(told) != fmt.Sprint(heard) {
		t.Fatalf("%v\n%+v %v:\n%v %v %d %d %v, not\n%v %v %d", l, h, data, got, told, n, s, e, want, heard, lost)
	}
	return got, told
}

// TestLost: how many were, at every two numbers, of every channel.
func TestLost(t *testing.T) {
	l := listen(t, 3, 13)
	for _, channel := range []int{0, 3, 6, 7} {
		for master := -1; master < 256; master++ {
			for came := range 256 {
				l.Master = master
				b, _ := frame.Pack(api.Head{Craft: 3, Channel: channel, Master: came, First: api.NoFirst}, []byte{1}, came)
				got, h, lost, status, e := frame.Hear(l, b)
				want := (came - master + 256) % 256
				if master == -1 {
					want = 0
				}
				if e != api.OK || lost != want || status != came || got.Master != (came+1)%256 || len(h) != 0 {
					t.Fatalf("%d behind %d: %d %d %v", came, master, lost, status, e)
				}
			}
		}
	}
}

// TestOwn: a rest stays just if the number is the one that was expected; what fills changes no ear.
func TestOwn(t *testing.T) {
	whole := pack(5, 0, []byte{1, 2, 3})
	l := listen(t, 3, 12+4)
	for next := range 256 {
		for own := range 256 {
			l.Ears[2] = api.Ear{Next: next, Rest: whole[:5]}
			got, h := hears(t, l, api.Head{Channel: 2, Own: own, First: api.NoFirst}, whole[5:], 0)
			if got.Ears[2].Next != (own+1)%256 || len(got.Ears[2].Rest) != 0 || len(h) > 0 != (own == next) {
				t.Fatalf("%d, %d came: %v %v", next, own, got, h)
			}
		}
	}
	for first := range 2048 {
		got, h := hears(t, l, api.Head{Channel: 7, Own: 9, First: first}, whole[5:], 0)
		if len(h) != 0 || !reflect.DeepEqual(got.Ears, l.Ears) {
			t.Fatalf("what fills: %v %v", got, h)
		}
	}
}

// TestRests: beginnings of many kinds, with data of many kinds behind them, at each First.
func TestRests(t *testing.T) {
	one, two := pack(5, 0, []byte{1, 2, 3}), pack(6, 1, []byte{4})
	fill, _ := packet.Fill(8)
	bad := append([]byte{0x20}, one[1:]...)
	row := bytes.Join([][]byte{one, two, fill, two, one, fill}, nil)
	rests := [][]byte{nil, bad[:1], bad[:5], bad, one, append(bytes.Clone(one), two...), append(bytes.Clone(two), bad...), append(bytes.Clone(fill), one[:4]...)}
	for n := range 12 {
		rests = append(rests, row[:n])
	}
	for _, rest := range rests {
		l := listen(t, 3, 12+20)
		l.Ears[4] = api.Ear{Next: 8, Rest: rest}
		for at := range len(row) - 20 {
			for first := range 23 {
				hears(t, l, api.Head{Channel: 4, Own: 8, First: first}, row[at:at+20], 1)
				hears(t, l, api.Head{Channel: 4, Own: 9, First: first}, row[at:at+20], 1)
			}
			for _, first := range []int{api.OnlyFill, api.NoFirst} {
				hears(t, l, api.Head{Channel: 4, Own: 8, First: first}, row[at:at+20], 1)
				hears(t, l, api.Head{Channel: 4, Own: 9, First: first}, row[at:at+20], 1)
			}
		}
	}
}

// TestFirst: by cases that are told one by one.
func TestFirst(t *testing.T) {
	one, two := pack(5, 0, []byte{1, 2, 3}), pack(6, 1, []byte{4})
	try := func(what string, rest []byte, first int, data []byte, apids []int, left []byte) {
		t.Helper()
		l := listen(t, 3, 12+len(data))
		l.Ears[4] = api.Ear{Next: 8, Rest: rest}
		got, h := hears(t, l, api.Head{Channel: 4, Own: 8, First: first}, data, 1)
		var heard []int
		for _, x := range h {
			heard = append(heard, x.Packet.Apid)
			if x.Channel != 4 {
				t.Errorf("%s: channel %d", what, x.Channel)
			}
		}
		if !reflect.DeepEqual(heard, apids) || !bytes.Equal(got.Ears[4].Rest, left) {
			t.Errorf("%s: %v, left %X", what, heard, got.Ears[4].Rest)
		}
	}
	join := func(l ...[]byte) []byte { return bytes.Join(l, nil) }
	try("a packet, and the beginning of another", nil, 0, join(one, two[:3]), []int{5}, two[:3])
	try("the rest of what is not known", nil, 2, join(one[7:], two), []int{6}, nil)
	try("no beginning, no rest", nil, api.NoFirst, one, nil, nil)
	try("a rest that goes on", one[:2], api.NoFirst, one[2:5], nil, one[:5])
	try("a rest that ends", one[:2], api.NoFirst, one[2:], []int{5}, nil)
	try("a rest that ends where another begins", one[:2], 7, join(one[2:], two), []int{5, 6}, nil)
	try("a rest that ends too early", one[:2], 8, join(one[2:], []byte{0}, two), []int{6}, nil)
	try("a rest that ends too late", one[:2], 6, join(one[2:8], two), []int{6}, nil)
	try("a rest, and a beginning at once", one[:2], 0, two, []int{6}, nil)
	try("a rest that is whole", one, 0, two, []int{5, 6}, nil)
	try("two that end where First is", one[:2], 14, join(one[2:], two, two), []int{5, 6, 6}, nil)
	try("First just behind the data", one[:2], 7, one[2:], nil, nil)
	try("only fill", one[:2], api.OnlyFill, one[2:], nil, nil)
	try("only fill, no rest", nil, api.OnlyFill, one, nil, nil)
	try("what is no packet", nil, 0, join(one, []byte{0xE0, 0, 0, 0, 0, 0, 0}), []int{5}, nil)
	try("what may be no packet, but is too short", nil, 0, join(one, []byte{0xE0, 0, 0, 0, 0}), []int{5}, []byte{0xE0, 0, 0, 0, 0})
	try("a rest that is no packet", []byte{0xE0}, api.NoFirst, one, nil, nil)
	try("packets that fill", nil, 0, join(pack(2047, 9, []byte{8}), two, pack(2047, 0, []byte{0})), []int{6}, nil)
}

// TestAnything: listeners and frames that look drawn.
func TestAnything(t *testing.T) {
	r := rand.New(rand.NewSource(68))
	pieces := func(most int) []byte {
		var out []byte
		for range r.Intn(4) {
			b := pack(r.Intn(2048), r.Intn(9), make([]byte, 1+r.Intn(6)))
			if r.Intn(12) == 0 {
				b = some(r, 1+r.Intn(9))
			}
			out = append(out, b...)
		}
		return out[min(len(out), r.Intn(9)):][:min(most, max(0, len(out)-9))]
	}
	for range 20000 {
		size := 13 + r.Intn(30)
		l := api.Listener{Craft: r.Intn(1024), Size: size, Master: r.Intn(257) - 1, Ears: make([]api.Ear, 7)}
		for i := range l.Ears {
			if l.Ears[i].Next = r.Intn(4) - 1; l.Ears[i].Next >= 0 {
				l.Ears[i].Rest = pieces(30)
			}
		}
		data := make([]byte, size-12)
		copy(data, pieces(size-12))
		h := api.Head{Channel: r.Intn(8), Master: r.Intn(256), Own: r.Intn(3), First: r.Intn(size - 10)}
		if r.Intn(4) == 0 {
			h.First = api.NoFirst
		}
		hears(t, l, h, data, r.Intn(1<<32))
	}
}

// carry: packets go in frames, of which some are lost; what is heard, and what should be: of each channel those that fill not, and of which no byte lay in a lost frame.
func carry(t *testing.T, r *rand.Rand, size, busy int, lose func(int) bool) (want, got [7][]api.Packet) {
	t.Helper()
	s, l, slow := open(t, 9, size), listen(t, 9, size), &slowSender{size: size}
	var sent []api.Heard
	gone := map[int]bool{}
	lost := 0
	for i := range 700 {
		for range r.Intn(1 + busy) {
			c := r.Intn(7)
			if len(s.Queues[c].Packets) >= 50 {
				continue
			}
			p := api.Packet{Up: r.Intn(2) == 0, Apid: 2040 + r.Intn(8), Part: api.Part(r.Intn(4)), Count: r.Intn(16384), Data: some(r, 1+r.Intn(2*size))}
			b, _ := packet.Encode(p)
			s = put(t, s, c, b)
			slow.put(c, len(sent), b)
			sent = append(sent, api.Heard{Channel: c, Packet: p})
		}
		_, data := slow.next()
		var b []byte
		var e api.Errno
		s, b, e = frame.Next(s, i)
		if e != api.OK {
			t.Fatal(e)
		}
		if lose(i) {
			lost++
			for _, x := range data {
				gone[x.of] = true
			}
			continue
		}
		var h []api.Heard
		var n, status int
		first := l.Master == -1
		if l, h, n, status, e = frame.Hear(l, b); e != api.OK || status != i || !first && n != lost || first && n != 0 {
			t.Fatalf("frame %d: lost %d, not %d, status %d, %v", i, n, lost, status, e)
		}
		lost = 0
		for _, x := range h {
			got[x.Channel] = append(got[x.Channel], x.Packet)
		}
	}
	waits := map[int]bool{}
	for _, l := range slow.waits {
		for _, x := range l {
			waits[x.of] = true
		}
	}
	for i, x := range sent {
		if x.Packet.Apid != 2047 && !gone[i] && !waits[i] {
			want[x.Channel] = append(want[x.Channel], x.Packet)
		}
	}
	return want, got
}

// TestCarried: what comes of it.
func TestCarried(t *testing.T) {
	r := rand.New(rand.NewSource(69))
	for round := range 40 {
		size, busy, often := 13+r.Intn(60), 1+r.Intn(3), round%4
		want, got := carry(t, r, size, busy, func(int) bool { return r.Intn(20) < often*often })
		if !reflect.DeepEqual(got, want) {
			t.Fatalf("round %d, size %d: other packets are heard", round, size)
		}
	}
	// As many in a row as may be lost.
	want, got := carry(t, r, 60, 1, func(i int) bool { return i >= 100 && i < 355 })
	if !reflect.DeepEqual(got, want) {
		t.Error("255 lost frames: other packets are heard")
	}
}

// TestLongPacket: the longest one, in small and in great frames, between two others.
func TestLongPacket(t *testing.T) {
	r := rand.New(rand.NewSource(70))
	for _, size := range []int{100, 1000, 2048} {
		s, l := open(t, 9, size), listen(t, 9, size)
		want := []api.Packet{
			{Apid: 4, Part: api.Whole, Data: some(r, 1)},
			{Apid: 5, Part: api.Whole, Data: some(r, api.MaxData)},
			{Apid: 6, Part: api.Whole, Data: some(r, 1)},
		}
		for _, p := range want {
			b, _ := packet.Encode(p)
			s = put(t, s, 5, b)
		}
		var got []api.Packet
		for len(s.Queues[5].Packets) > 0 && len(got) < 3 {
			b, e := []byte(nil), api.OK
			if s, b, e = frame.Next(s, 0); e != api.OK {
				t.Fatal(e)
			}
			var h []api.Heard
			if l, h, _, _, e = frame.Hear(l, b); e != api.OK {
				t.Fatal(e)
			}
			for _, x := range h {
				got = append(got, x.Packet)
			}
		}
		if !reflect.DeepEqual(got, want) {
			t.Errorf("size %d: %d packets are heard", size, len(got))
		}
	}
}

// TestLongestRest: all that may be held, and its last byte.
func TestLongestRest(t *testing.T) {
	whole := pack(5, 0, make([]byte, api.MaxData))
	l := listen(t, 3, 13)
	l.Ears[0] = api.Ear{Next: 255, Rest: whole[:len(whole)-2]}
	l, h, _, _, e := frame.Hear(l, slowFrame(api.Head{Craft: 3, Own: 255, First: api.NoFirst}, []byte{0}, 0))
	if e != api.OK || len(h) != 0 || len(l.Ears[0].Rest) != api.MaxData+5 || l.Ears[0].Next != 0 {
		t.Fatal(e, len(h), len(l.Ears[0].Rest))
	}
	l, h, _, _, e = frame.Hear(l, slowFrame(api.Head{Craft: 3, First: api.NoFirst}, []byte{7}, 0))
	if e != api.OK || len(h) != 1 || len(l.Ears[0].Rest) != 0 || h[0].Packet.Data[api.MaxData-1] != 7 {
		t.Error(e, len(h), len(l.Ears[0].Rest))
	}
}

func TestHearApart(t *testing.T) {
	one, two := pack(5, 0, []byte{1, 2, 3}), pack(6, 1, []byte{4})
	data := bytes.Join([][]byte{one[4:], two, two, one[:7]}, nil)
	for _, size := range []int{12 + len(data), 13} {
		for channel := range 8 {
			for _, first := range []int{0, 5, 12, api.NoFirst, api.OnlyFill} {
				for _, rest := range [][]byte{nil, one[:4], one} {
					l := listen(t, 3, size)
					for c := range l.Ears {
						l.Ears[c] = api.Ear{Next: c % 3, Rest: roomy(rest)}
					}
					b := roomy(slowFrame(api.Head{Craft: 3, Channel: channel, Own: 1, First: first}, data, 1))
					apart(t, fmt.Sprint("Hear ", size, channel, first, rest), []any{l, b}, func() []any {
						out, h, _, _, _ := frame.Hear(l, b)
						return []any{out, h}
					})
				}
			}
		}
	}
}
