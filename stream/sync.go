package stream

import (
	"math/bits"

	"farhail/api"
)

const (
	markBits = 32

	mostFind = 8
	mostHold = 12
	mostMiss = 8
)

// Sync listens to a stream of bits.
type Sync struct {
	rule   api.Rule
	next   func(s *Sync, tell func(api.Found)) // what is done when a bit has come
	locked bool
	taken  int    // how many bits have come
	last   uint64 // the last of them, the newest one lowest
	at     int    // where one searches, where the mark of the frame on its way is, or where one is expected
	turned bool   // the mark that was there last
	missed int    // how many were not there since
	data   []byte // of the frame on its way, as it came
}

// within: is it from 0 to most?
func within(n, most int) bool { return n >= 0 && n <= most }

// search for a mark from a bit on.
func (s *Sync) search(at int) {
	s.at, s.locked = at, false
	s.turned, s.missed = false, 0
	s.next = (*Sync).searching
}

// begin the frame of a mark.
func (s *Sync) begin(at int, turned bool, missed int) {
	s.at, s.locked = at, true
	s.turned, s.missed = turned, missed
	s.data = make([]byte, 0, s.rule.Length)
	s.next = (*Sync).gathering
}

// expect a mark at the bit that comes next.
func (s *Sync) expect() {
	s.at, s.data = s.taken, nil
	s.next = (*Sync).expecting
}

// searching: at each bit behind which enough have come, of which there are two when an expected mark was missed.
func (s *Sync) searching(tell func(api.Found)) {
	for s.taken-s.at >= markBits {
		for _, turned := range []bool{false, true} {
			if s.wrong(s.at, turned) <= s.rule.Find {
				s.begin(s.at, turned, 0)
				return
			}
		}
		s.at++
	}
}

// gathering: the bytes of a frame; the bits that came behind its mark ahead of this step, two at most, are still among the last ones.
func (s *Sync) gathering(tell func(api.Found)) {
	if (s.taken-s.at)%byteBits != 0 {
		return
	}
	s.data = append(s.data, byte(s.last))
	if len(s.data) == s.rule.Length {
		tell(s.frame())
		s.expect()
	}
}

// expecting: a mark at its place can be told a bit earlier than what else may have become of it.
func (s *Sync) expecting(tell func(api.Found)) {
	switch s.taken - s.at {
	case markBits:
		if s.wrong(s.at, s.turned) <= s.rule.Hold {
			s.begin(s.at, s.turned, 0)
		}
	case markBits + 1:
		s.decide(tell)
	}
}

// decide what became of a mark that is not at its place.
func (s *Sync) decide(tell func(api.Found)) {
	switch {
	case s.wrong(s.at-1, s.turned) <= s.rule.Find:
		s.begin(s.at-1, s.turned, 0)
	case s.wrong(s.at+1, s.turned) <= s.rule.Find:
		s.begin(s.at+1, s.turned, 0)
	case s.wrong(s.at, !s.turned) <= s.rule.Hold:
		s.begin(s.at, !s.turned, 0)
	case s.missed < s.rule.Miss:
		s.begin(s.at, s.turned, s.missed+1)
	default:
		s.search(s.at)
		s.searching(tell)
	}
}

// wrong: how many of the bits from one on, which must be among the last ones, are not as those of the mark?
func (s *Sync) wrong(at int, turned bool) int {
	came := uint32(s.last >> (s.taken - at - markBits))
	if turned {
		came = ^came
	}
	return bits.OnesCount32(came ^ uint32(api.Mark))
}

// frame: what is told of the frame that is whole.
func (s *Sync) frame() api.Found {
	b := s.data
	if s.turned {
		for i := range b {
			b[i] = ^b[i]
		}
	}
	return api.Found{At: s.at, Turned: s.turned, Missed: s.missed, Data: Scramble(b)}
}
