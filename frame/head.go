package frame

import "farhail/api"

// How many bytes of a frame are no data.
const (
	headBytes   = 6
	statusBytes = 4
	sumBytes    = 2
	aroundBytes = headBytes + statusBytes + sumBytes
)

// The bits of a head that are always the same, within the two bytes of the names and the two bytes of First; and where the names begin.
const (
	craftPlace   = 4
	channelPlace = 1
	nameForm     = 0x0001
	nameFixed    = 0xC001
	firstForm    = 0x1800
	firstFixed   = 0xF800
)

// What a sum begins with, and what turns it round when a 1 leaves it.
const (
	sumBegins = 0xFFFF
	sumTurns  = 0x1021
)

const (
	channels  = api.MaxChannel + 1
	maxNumber = 255
	anyNumber = -1
	maxStatus = 1<<32 - 1
)

// number that bytes tell, the highest one first.
func number(bytes ...byte) int {
	n := 0
	for _, x := range bytes {
		n = n<<8 | int(x)
	}
	return n
}

// readHead: what six bytes tell; false: one of the bits that are always the same is not.
func readHead(b []byte) (api.Head, bool) {
	name, first := number(b[:2]...), number(b[4:6]...)
	if name&nameFixed != nameForm || first&firstFixed != firstForm {
		return api.Head{}, false
	}
	return api.Head{
		Craft:   name >> craftPlace,
		Channel: name >> channelPlace & api.FillChannel,
		Master:  int(b[2]),
		Own:     int(b[3]),
		First:   first & api.NoFirst,
	}, true
}

func headMayBe(h api.Head) bool {
	return within(h.Craft, api.MaxCraft) && within(h.Channel, api.FillChannel) &&
		within(h.Master, maxNumber) && within(h.Own, maxNumber) && within(h.First, api.NoFirst)
}

func sizeMayBe(size int) bool { return size >= api.MinFrame && size <= api.MaxFrame }

// wrong: why there may be no frames of a craft and a size.
func wrong(craft, size int) api.Errno {
	if !within(craft, api.MaxCraft) {
		return api.ErrRange
	}
	if !sizeMayBe(size) {
		return api.ErrSize
	}
	return api.OK
}

// within: is a number from 0 to most?
func within(n, most int) bool { return n >= 0 && n <= most }

// behind: the number of the frame behind one.
func behind(n int) int { return (n + 1) % (maxNumber + 1) }
