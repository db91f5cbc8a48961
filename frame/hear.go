package frame

import (
	"slices"

	"farhail/api"
	"farhail/packet"
)

// maxRest: one byte less than the longest packet has.
const maxRest = api.MaxData + 5

func listenerMayBe(l api.Listener) bool {
	if wrong(l.Craft, l.Size) != api.OK || !expectable(l.Master) || len(l.Ears) != channels {
		return false
	}
	for _, ear := range l.Ears {
		if !expectable(ear.Next) || len(ear.Rest) > maxRest || ear.Next == anyNumber && len(ear.Rest) > 0 {
			return false
		}
	}
	return true
}

// expectable: may a frame of this number be expected?
func expectable(n int) bool { return n == anyNumber || within(n, maxNumber) }

// copyListener: one that shares no memory with the other.
func copyListener(l api.Listener) api.Listener {
	ears := make([]api.Ear, len(l.Ears))
	for i, ear := range l.Ears {
		ears[i] = api.Ear{Next: ear.Next, Rest: slices.Clone(ear.Rest)}
	}
	l.Ears = ears
	return l
}

// lostAhead: how many frames were lost ahead of one that comes.
func lostAhead(expected, came int) int {
	if expected == anyNumber {
		return 0
	}
	return (came - expected + maxNumber + 1) % (maxNumber + 1)
}

// hearPackets: the packets that are whole by the data of a frame, which is of the ear's channel.
func hearPackets(ear *api.Ear, h api.Head, data []byte) []api.Packet {
	rest := ear.Rest
	if ear.Next != h.Own {
		rest = nil
	}
	packets, left, e := split(toGoThrough(rest, data, h.First))
	*ear = api.Ear{Next: behind(h.Own)}
	if e == api.ErrMore {
		ear.Rest = slices.Clone(left)
	}
	return packets
}

// toGoThrough: in which bytes packets are looked for, when data come behind a rest.
func toGoThrough(rest, data []byte, first int) []byte {
	switch {
	case first == api.NoFirst && len(rest) == 0:
		return nil
	case first == api.NoFirst:
		return slices.Concat(rest, data)
	case first >= len(data):
		return nil
	case len(rest) > 0 && isRow(slices.Concat(rest, data[:first])):
		return slices.Concat(rest, data)
	}
	return data[first:]
}

// isRow: are these whole packets, one behind the other?
func isRow(b []byte) bool {
	_, left, _ := split(b)
	return len(left) == 0
}

// split: the packets with which bytes begin; what is left behind them; why that is no packet.
func split(b []byte) (packets []api.Packet, left []byte, e api.Errno) {
	for {
		p, n, e := packet.Decode(b)
		if e != api.OK {
			return packets, b, e
		}
		packets = append(packets, p)
		b = b[n:]
	}
}

// told: packets as they are heard on a channel, without those that fill.
func told(channel int, packets []api.Packet) []api.Heard {
	var out []api.Heard
	for _, p := range packets {
		if p.Apid != api.MaxApid {
			out = append(out, api.Heard{Channel: channel, Packet: p})
		}
	}
	return out
}
