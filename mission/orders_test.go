package mission_test

import (
	"math/rand"
	"slices"
	"testing"

	"farhail/api"
	"farhail/command"
	"farhail/keys"
	"farhail/mission"
)

// silent: a plan by which the guard tells whether the ground was heard.
func silent(p *api.Plan) {
	quietly(p)
	p.Guard.Silence = 1000
}

// heard: was the ground, in the last tick?
func (c *pilot) heard() bool { return c.board.Vigil.Quiet == 0 }

// unmoved: neither ring nor gate are others, the ground was not heard, nothing is told.
func (c *pilot) unmoved(what string, was api.Board, got told) {
	c.Helper()
	if !same(c.board.Ring, was.Ring) || c.board.Gate != was.Gate || c.heard() || len(got.events) > 0 {
		c.Errorf("%s: %v %v heard %v %q", what, c.board.Ring, c.board.Gate, c.heard(), got.events)
	}
}

// TestFramesThatAreNone: what is no order, is not sealed, or sealed by somebody else.
func TestFramesThatAreNone(t *testing.T) {
	c := piloted(t, planWith(silent))
	right := c.up("L")[0]
	other := key()
	other.Words = slices.Clone(other.Words)
	other.Words[7]++
	stranger := key()
	stranger.ID = 4
	order := func(data []byte) []byte { return ordered(t, api.Order{Craft: 5, Data: data}) }
	frames := map[string][]byte{
		"nothing": nil, "bytes": {1, 2, 3}, "not whole": right[:len(right)-1], "too long": append(slices.Clone(right), 0),
		"not sealed": order([]byte("L")), "other words": order(sealed(t, other, 0, "L")), "stranger": order(sealed(t, stranger, 0, "L")),
		"no command": order(sealed(t, key(), 0, "")), "other craft": ordered(t, api.Order{Craft: 4, Data: sealed(t, key(), 0, "L")}),
	}
	for i := range right {
		b := slices.Clone(right)
		b[i] ^= 0x10
		frames["byte "+string(rune('a'+i))] = b
	}
	for what, b := range frames {
		was := c.board
		c.unmoved(what, was, c.tickWith([][]byte{b}))
	}
	c.saw(c.tickWith([][]byte{right}), "DL")
	if !c.heard() || c.board.Gate.Next != 1 || c.board.Ring.Keys[0].Top != 0 {
		t.Error(c.board)
	}
}

// TestSealSpoilt: a sealed body whose order is right, but of which a byte is another one.
func TestSealSpoilt(t *testing.T) {
	c := piloted(t, planWith(silent))
	for i := range sealed(t, key(), 0, "Scool") {
		data := sealed(t, key(), 0, "Scool")
		data[i] ^= 1
		was := c.board
		c.unmoved("a byte", was, c.tickWith([][]byte{ordered(t, api.Order{Craft: 5, Data: data})}))
	}
}

// TestOutOfTurn: what the gate does not accept leaves the ring alone: it can be opened when it comes once more.
func TestOutOfTurn(t *testing.T) {
	c := piloted(t, planWith(silent))
	l := c.up("V\x01\x00\x00\x00\x01", "V\x01\x00\x00\x00\x02", "V\x01\x00\x00\x00\x03")
	got := c.tickWith([][]byte{l[1], l[2]})
	if len(got.events) > 0 || !c.board.Gate.Again || c.board.Gate.Next != 0 || c.board.Ring.Keys[0].Top != -1 || c.heard() {
		t.Error(got, c.board.Gate, c.board.Ring)
	}
	c.saw(c.tickWith([][]byte{l[0], l[2]}), "DV")
	if !c.board.Gate.Again || c.board.Gate.Next != 1 || c.board.Values[1] != 1 || !c.heard() {
		t.Error(c.board)
	}
	was := c.board.Ring
	c.saw(c.tickWith([][]byte{l[2], l[1], l[0], l[2]}), "DV", "DV")
	if c.board.Gate.Again || c.board.Gate.Next != 3 || c.board.Values[1] != 3 || was.Keys[0].Top != 0 || c.board.Ring.Keys[0].Top != 2 {
		t.Error(c.board)
	}
}

// TestOnceMore: what was let in, and comes again, in whatever order, changes nothing on board.
func TestOnceMore(t *testing.T) {
	r := rand.New(rand.NewSource(1))
	p := planWith(silent)
	p.Half = 8
	c := piloted(t, p)
	var all [][]byte
	for range 400 {
		all = append(all, c.up("V\x01\x00\x00\x00"+string([]byte{byte(r.Intn(256))}), "W\x00\x03\x00\x00\x00"+string([]byte{byte(r.Intn(256))}))...)
		c.saw(c.tickWith(all[len(all)-2:]), "DV", "DW")
		var again [][]byte
		for range 10 {
			again = append(again, all[r.Intn(len(all))])
		}
		calm := mission.Fly(p, c.board, nil, c.inputs, nil)
		replayed := mission.Fly(p, c.board, again, c.inputs, nil)
		if !same(calm, replayed) {
			t.Fatal("something came of what came once more")
		}
	}
}

// TestTooFar: an order too far ahead shuts the gate, though the ring is left alone; nothing more is let in, till the ground says so.
func TestTooFar(t *testing.T) {
	c := piloted(t, planWith(silent))
	far := ordered(t, api.Order{Craft: 5, Seq: 100, Data: sealed(t, key(), 50, "L")})
	got := c.tickWith([][]byte{far})
	if len(got.events) > 0 || !c.board.Gate.Shut || c.board.Ring.Keys[0].Top != -1 || c.heard() {
		t.Error(got, c.board.Gate, c.board.Ring)
	}
	next := c.up("L")
	if got = c.tickWith(next); len(got.events) > 0 || c.board.Ring.Keys[0].Top != -1 || c.heard() {
		t.Error(got, c.board.Ring)
	}
	// An order for the gate itself is sealed, too; it is heard, but no command, so nothing is told.
	bare := ordered(t, api.Order{Craft: 5, Bypass: true, Control: true, Data: []byte{0}})
	if got = c.tickWith([][]byte{bare}); !c.board.Gate.Shut || c.heard() {
		t.Error(got, c.board.Gate)
	}
	open := ordered(t, api.Order{Craft: 5, Bypass: true, Control: true, Data: sealed(t, key(), 60, "\x00")})
	got = c.tickWith([][]byte{open})
	if len(got.events) > 0 || c.board.Gate.Shut || c.board.Gate.Count != 1 || c.board.Ring.Keys[0].Top != 60 || !c.heard() {
		t.Error(got, c.board.Gate, c.board.Ring)
	}
	c.saw(c.tickWith(next), "DL")
	// A wrong word for the gate leaves the ring alone.
	was := c.board
	c.unmoved("wrong control", was, c.tickWith([][]byte{ordered(t, api.Order{Craft: 5, Bypass: true, Control: true, Data: sealed(t, key(), 61, "\x01")})}))
	c.tickWith([][]byte{ordered(t, api.Order{Craft: 5, Bypass: true, Control: true, Data: sealed(t, key(), 61, "\x82\x00\x63")})})
	if c.board.Gate.Next != 99 || !c.heard() {
		t.Error(c.board.Gate)
	}
}

// TestPast: what goes past the gate is done, whatever its number.
func TestPast(t *testing.T) {
	c := piloted(t, planWith(silent))
	for i := range 5 {
		past := ordered(t, api.Order{Craft: 5, Bypass: true, Seq: 77, Data: sealed(t, key(), i, "W\x00\x03\x00\x00\x00\x05")})
		c.saw(c.tickWith([][]byte{past, past}), "DW")
		if c.board.Gate != (api.Gate{Craft: 5, Half: 100, Count: (i + 1) % 4}) {
			t.Error(c.board.Gate)
		}
	}
}

// TestKeys: any key of the ring may ask, each by its own counters.
func TestKeys(t *testing.T) {
	c := piloted(t, planWith(silent))
	second := api.Key{ID: 200, Words: []int{9, 9, 9, 9, 9, 9, 9, 9}, Top: -1}
	c.board.Ring, _ = keys.Add(c.board.Ring, second)
	var l [][]byte
	for i, k := range []api.Key{key(), second, second, key()} {
		l = append(l, ordered(t, api.Order{Craft: 5, Seq: i, Data: sealed(t, k, i/2, "L")}))
	}
	c.saw(c.tickWith(l), "DL", "DL", "DL", "DL")
	if k := c.board.Ring.Keys; k[0].Top != 1 || k[1].Top != 1 || k[0].Seen != 1 || k[1].Seen != 1 {
		t.Error(k)
	}
	// A counter that is too old is not opened, though its number is the next one.
	c.board.Ring.Keys[0].Top, c.board.Ring.Keys[0].Seen = 100, 0
	was := c.board
	c.unmoved("old", was, c.tickWith([][]byte{ordered(t, api.Order{Craft: 5, Seq: 4, Data: sealed(t, key(), 37, "L")})}))
	c.saw(c.tickWith([][]byte{ordered(t, api.Order{Craft: 5, Seq: 4, Data: sealed(t, key(), 38, "L")})}), "DL")
}

// TestLongCommand: of the most bytes that are sealed.
func TestLongCommand(t *testing.T) {
	c := piloted(t, planWith(silent))
	c.saw(c.tick("S"+string(make([]byte, api.MaxSealed-1))), refusal(api.ErrName, "S"))
}

// TestStatus: what goes down tells how the gate stands behind what came.
func TestStatus(t *testing.T) {
	c := piloted(t, planWith(silent))
	l := c.up("L", "L", "L")
	for _, came := range [][][]byte{nil, {l[0]}, {l[2]}, {l[1], l[2]}} {
		x := mission.Fly(c.plan, c.board, came, c.inputs, nil)
		c.board = x.Board
		b := frameOf(t, c.plan, x.Bits)
		n := len(b)
		status := int(b[n-6])<<24 | int(b[n-5])<<16 | int(b[n-4])<<8 | int(b[n-3])
		if want, _ := command.Report(c.board.Gate); status != want {
			t.Errorf("%x, not %x", status, want)
		}
	}
	if c.board.Gate.Next != 3 {
		t.Error(c.board.Gate)
	}
}
