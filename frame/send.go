package frame

import (
	"slices"

	"farhail/api"
	"farhail/packet"
)

// minPacket: how many bytes a packet has at least.
const minPacket = 7

func senderMayBe(s api.Sender) bool {
	if wrong(s.Craft, s.Size) != api.OK || !within(s.Master, maxNumber) || !within(s.Turn, api.MaxChannel) || len(s.Queues) != channels {
		return false
	}
	for _, q := range s.Queues {
		if !queueMayBe(q) {
			return false
		}
	}
	return true
}

func queueMayBe(q api.Queue) bool {
	if !within(q.Own, maxNumber) || len(q.Packets) > api.MaxWaiting {
		return false
	}
	for _, p := range q.Packets {
		if !onePacket(p) {
			return false
		}
	}
	if len(q.Packets) == 0 {
		return q.Gone == 0
	}
	return within(q.Gone, len(q.Packets[0])-1)
}

// onePacket: are these the bytes of just one packet?
func onePacket(b []byte) bool {
	_, n, e := packet.Decode(b)
	return e == api.OK && n == len(b)
}

// copySender: one that shares no memory with the other.
func copySender(s api.Sender) api.Sender {
	queues := make([]api.Queue, len(s.Queues))
	for i, q := range s.Queues {
		packets := make([][]byte, len(q.Packets))
		for k, p := range q.Packets {
			packets[k] = slices.Clone(p)
		}
		q.Packets = packets
		queues[i] = q
	}
	s.Queues = queues
	return s
}

// takeFrame: the head and the data of a sender's next frame, which are gone then.
func takeFrame(s *api.Sender) (api.Head, []byte) {
	room := s.Size - aroundBytes
	h := api.Head{Craft: s.Craft, Channel: channelInTurn(*s), Master: s.Master, First: api.OnlyFill}
	s.Master = behind(s.Master)
	if h.Channel == api.FillChannel {
		return h, make([]byte, room)
	}
	q := &s.Queues[h.Channel]
	h.Own, h.First = q.Own, firstIn(*q, room)
	q.Own = behind(q.Own)
	s.Turn = (h.Channel + 1) % channels
	return h, takeData(q, room)
}

// channelInTurn: the first one, asking round, for which something waits; FillChannel, if there is none.
func channelInTurn(s api.Sender) int {
	for i := range channels {
		channel := (s.Turn + i) % channels
		if len(s.Queues[channel].Packets) > 0 {
			return channel
		}
	}
	return api.FillChannel
}

// firstIn: where the first packet begins that begins in the next data of a queue, for which something waits.
func firstIn(q api.Queue, room int) int {
	if q.Gone == 0 {
		return 0
	}
	// Behind the end of a packet another one begins, if only one that fills.
	if left := len(q.Packets[0]) - q.Gone; left < room {
		return left
	}
	return api.NoFirst
}

// takeData out of a queue, as many bytes as there is room for.
func takeData(q *api.Queue, room int) []byte {
	out := make([]byte, 0, room)
	for len(out) < room {
		missing := room - len(out)
		if len(q.Packets) == 0 {
			fill, _ := packet.Fill(max(missing, minPacket))
			q.Packets = [][]byte{fill}
		}
		first := q.Packets[0]
		n := min(missing, len(first)-q.Gone)
		out = append(out, first[q.Gone:q.Gone+n]...)
		q.Gone += n
		if q.Gone == len(first) {
			q.Packets, q.Gone = q.Packets[1:], 0
		}
	}
	return out
}
