package packet

import "farhail/api"

const headBytes = 6

// How many bits of a head each of its fields has, in their order.
const (
	formBits  = 3
	flagBits  = 1
	apidBits  = 11
	partBits  = 2
	countBits = 14
	sizeBits  = 16
	headBits  = 8 * headBytes
)

// headOf a packet that may be, with room for the data behind it.
func headOf(p api.Packet) []byte {
	head := uint64(0)
	put := func(bits, n int) { head = head<<bits | uint64(n) }
	put(formBits, 0)
	put(flagBits, flag(p.Up))
	put(flagBits, flag(p.Second))
	put(apidBits, p.Apid)
	put(partBits, int(p.Part))
	put(countBits, p.Count)
	put(sizeBits, len(p.Data)-1)
	out := make([]byte, 0, headBytes+len(p.Data))
	for place := headBits - 8; place >= 0; place -= 8 {
		out = append(out, byte(head>>place))
	}
	return out
}

// readHead: what a head of six bytes tells: the packet without its data; the bits of its form; how many bytes of data there are.
func readHead(b []byte) (p api.Packet, form, size int) {
	head := uint64(0)
	for _, x := range b {
		head = head<<8 | uint64(x)
	}
	left := headBits
	take := func(bits int) int {
		left -= bits
		return int(head >> left & (1<<bits - 1))
	}
	form = take(formBits)
	p.Up = take(flagBits) == 1
	p.Second = take(flagBits) == 1
	p.Apid = take(apidBits)
	p.Part = api.Part(take(partBits))
	p.Count = take(countBits)
	return p, form, take(sizeBits) + 1
}

// flag: a bit.
func flag(set bool) int {
	if set {
		return 1
	}
	return 0
}

// wrong: why a packet may not be.
func wrong(p api.Packet) api.Errno {
	if !within(p.Apid, api.MaxApid) || !within(int(p.Part), int(api.Whole)) || !within(p.Count, api.MaxCount) {
		return api.ErrRange
	}
	if len(p.Data) == 0 || len(p.Data) > api.MaxData {
		return api.ErrSize
	}
	return api.OK
}

// within: is a number from 0 to most?
func within(n, most int) bool { return n >= 0 && n <= most }

// someones: does an apid stand for someone, and not for what fills?
func someones(apid int) bool { return within(apid, api.MaxApid-1) }

// partAt: which part of a unit the piece at a place is.
func partAt(at, pieces int) api.Part {
	switch {
	case pieces == 1:
		return api.Whole
	case at == 0:
		return api.First
	case at == pieces-1:
		return api.Last
	}
	return api.Middle
}

// countBehind: the number of the packet behind one.
func countBehind(count int) int { return (count + 1) % (api.MaxCount + 1) }
