package command

import (
	"farhail/api"
	"farhail/frame"
)

// How many bytes of an order are no data, and how few and how many it has in all.
const (
	headBytes = 5
	sumBytes  = 2
	minBytes  = headBytes + 1 + sumBytes
	maxBytes  = headBytes + api.MaxOrder + sumBytes
)

// The bits of an order's first two bytes: ten of the craft lie lowest, then two that are always 0, then these.
const (
	controlBit = 1 << (iota + 12)
	bypassBit
)

// maxNumber: of orders; then comes 0.
const maxNumber = 255

// wrongOrder: why there may be no such order.
func wrongOrder(o api.Order) api.Errno {
	switch {
	case !within(o.Craft, 0, api.MaxCraft) || !within(o.Seq, 0, maxNumber):
		return api.ErrRange
	case wrongKind(o):
		return api.ErrKind
	case !sizeMayBe(o.Data):
		return api.ErrSize
	}
	return api.OK
}

// wrongKind: what is for the gate itself is never held up by it.
func wrongKind(o api.Order) bool { return o.Control && !o.Bypass }

// sizeMayBe: may a command be of so many bytes?
func sizeMayBe(data []byte) bool { return within(len(data), 1, api.MaxOrder) }

// orderBytes of an order that may be.
func orderBytes(o api.Order) []byte {
	all := headBytes + len(o.Data) + sumBytes
	head := headOf(o, all)
	b := append(make([]byte, 0, all), head[:]...)
	b = append(b, o.Data...)
	sum := frame.Sum(b)
	return append(b, byte(sum>>8), byte(sum))
}

// headOf an order that has so many bytes in all.
func headOf(o api.Order, all int) [headBytes]byte {
	name := o.Craft | bitIf(o.Bypass, bypassBit) | bitIf(o.Control, controlBit)
	last := all - 1
	return [headBytes]byte{byte(name >> 8), byte(name), byte(last >> 8), byte(last), byte(o.Seq)}
}

// readHead: what the first bytes tell, whatever stands in the bits that are always 0.
func readHead(b []byte) api.Order {
	name := number(b[0], b[1])
	return api.Order{
		Craft:   name & api.MaxCraft,
		Bypass:  name&bypassBit != 0,
		Control: name&controlBit != 0,
		Seq:     int(b[4]),
	}
}

// bytesTold: how many bytes an order tells that it has.
func bytesTold(b []byte) int { return number(b[2], b[3])&(maxBytes-1) + 1 }

// number of two bytes, the higher one first.
func number(high, low byte) int { return int(high)<<8 | int(low) }

// bitIf it is so.
func bitIf(so bool, bit int) int {
	if so {
		return bit
	}
	return 0
}

// around: a number of an order, modulo 256.
func around(n int) int { return n & maxNumber }

// within: is a number from least to most?
func within(n, least, most int) bool { return n >= least && n <= most }
