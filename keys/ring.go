package keys

import (
	"slices"

	"farhail/api"
)

const (
	maxID   = 255
	allSeen = 1<<api.MaxSeen - 1
)

// What is sealed: a head, the hidden body, the tag.
const (
	idBytes      = 1
	counterBytes = 6
	headBytes    = idBytes + counterBytes
	leastBytes   = headBytes + tagBytes
)

func keyMayBe(k api.Key) bool {
	return within(k.ID, 0, maxID) && wrongWords(k.Words) == api.OK &&
		within(k.Top, -1, api.MaxCounter) && seenMayBe(k)
}

// seenMayBe: below a counter of n lie n others, of which MaxSeen are remembered.
func seenMayBe(k api.Key) bool {
	return within(k.Seen, 0, 1<<min(max(k.Top, 0), api.MaxSeen)-1)
}

func ringMayBe(r api.Ring) bool {
	if len(r.Keys) > api.MaxKeys {
		return false
	}
	there := map[int]int{}
	for _, k := range r.Keys {
		there[k.ID]++
		if !keyMayBe(k) || there[k.ID] > 1 {
			return false
		}
	}
	return true
}

func copyKey(k api.Key) api.Key {
	k.Words = slices.Clone(k.Words)
	return k
}

func copyRing(r api.Ring) api.Ring {
	var out api.Ring
	for _, k := range r.Keys {
		out.Keys = append(out.Keys, copyKey(k))
	}
	return out
}

// find the key of an ID; -1: there is none.
func find(r api.Ring, id int) int {
	return slices.IndexFunc(r.Keys, func(k api.Key) bool { return k.ID == id })
}

// hide bytes, or show hidden ones.
func hide(words []int, counter int, list []byte) []byte {
	var out []byte
	index := 0
	for part := range chunks(list, blockBytes) {
		index++
		block := blockOf(words, counter, index)
		for i, b := range part {
			out = append(out, b^block[i])
		}
	}
	return out
}

// tooOld: was a counter opened, or can nobody tell any more?
func tooOld(k api.Key, counter int) bool {
	if counter > k.Top {
		return false
	}
	below := k.Top - counter
	return below == 0 || below > api.MaxSeen || k.Seen>>(below-1)&1 == 1
}

// opened: a key that keeps in mind that a counter was, which is not too old.
func opened(k api.Key, counter int) api.Key {
	switch {
	case counter < k.Top:
		k.Seen |= 1 << (k.Top - counter - 1)
	case k.Top < 0:
		k.Top = counter // there was no counter that Seen could tell
	default:
		seen := uint64(k.Seen)<<1 | 1
		k.Seen = int(seen << (counter - k.Top - 1) & allSeen)
		k.Top = counter
	}
	return k
}
