package mission_test

import (
	"encoding/hex"
	"fmt"
	"math/rand"
	"slices"
	"strings"
	"testing"

	"farhail/api"
	"farhail/memory"
	"farhail/mission"
)

// hexed: bytes of a text in hex, with blanks.
func hexed(t *testing.T, s string) []byte {
	t.Helper()
	b, err := hex.DecodeString(strings.ReplaceAll(s, " ", ""))
	if err != nil {
		t.Fatal(err)
	}
	return b
}

// TestWhole: the document's example of the whole.
func TestWhole(t *testing.T) {
	p := plan()
	b, d := begun(t, p), seated(t, p)
	for _, body := range []string{"W\x00\x03\x00\x00\x00\x05", "R\x00\x03", "Scool"} {
		var e api.Errno
		if d, e = mission.Order(p, d, []byte(body)); e != api.OK {
			t.Fatal(e)
		}
	}
	var bits []byte
	var ground, acts []string
	for tick := range 12 {
		s := hears(t, p, d, bits)
		d = s.Desk
		for _, u := range s.Units {
			ground = append(ground, fmt.Sprintf("%d %d %x", tick, u.Apid, u.Data))
		}
		temp := 5
		if tick >= 2 {
			temp = 60
		}
		x := mission.Fly(p, b, s.Up, []int{temp}, nil)
		b, bits = x.Board, x.Bits
		for _, a := range x.Acts {
			acts = append(acts, fmt.Sprint(tick, a.Name, a.Args))
		}
		switch tick {
		case 0:
			first := hexed(t, "00 05 00 1C 00 03 00 00 00 00 00 00 96 03 DF 0C AA C0 CD 0A 9F 53 E4 41 0D E0 86 91 37")
			down := hexed(t, "00 51 00 00 18 00 00 02 C0 00 00 01 44 57 00 02 C0 01 01 00 00 03 65 CE")
			if len(s.Up) != 3 || !slices.Equal(s.Up[0], first) || len(bits) != 496 || !slices.Equal(frameOf(t, p, bits), down) {
				t.Errorf("%x %x %d", s.Up, frameOf(t, p, bits), len(bits))
			}
		case 3:
			if b.Vigil.Safe || len(b.Crew.Tasks) > 0 {
				t.Error("safe too early")
			}
		case 4:
			if !b.Vigil.Safe || b.Vigil.Why != 0 || len(b.Crew.Tasks) != 1 || b.Crew.Tasks[0].Places[0].Seq != 1 || b.Values[1] != 0 {
				t.Error(b.Vigil, b.Crew)
			}
		case 5:
			if b.Values[1] != 1 {
				t.Error(b.Values)
			}
		}
	}
	if want := []string{"0fan[1]", "0fan[0]", "5off[]"}; !slices.Equal(acts, want) {
		t.Error(acts)
	}
	told := []string{
		"1 2 4457", "3 2 52000300000005", "4 1 00000000000000000500000000", "5 2 4452", "7 2 4453", "7 2 5300",
		"8 1 00000004010000003c00000000", "11 1 00000008010000003c00000001",
	}
	if !slices.Equal(ground, told) {
		t.Errorf("%q, not %q", ground, told)
	}
}

// drawnPlan: any that may be, of which the frames are not too long.
func drawnPlan(t *testing.T, r *rand.Rand) api.Plan {
	t.Helper()
	for {
		p := plan()
		p.Depth = 1 + r.Intn(3)
		p.Size, p.Checks, p.Rate, p.Find = 13+r.Intn(60), 1+r.Intn(8), api.Rate(1+r.Intn(5)), r.Intn(4)
		p.Ahead, p.Patience, p.Pause = 1+r.Intn(20), 3+r.Intn(10), r.Intn(8)
		p.Most, p.Piece, p.Burst, p.Wait = 5+r.Intn(60), 1+r.Intn(40), 1+r.Intn(3), 8+r.Intn(30)
		p.Scrub, p.Every = r.Intn(17), 1+r.Intn(30)
		if mission.Check(p).Code == api.OK {
			return p
		}
	}
}

// voyage of a ground and a craft, with what was told on board, and on the ground.
type voyage struct {
	*testing.T
	plan     api.Plan
	board    api.Board
	desk     api.Desk
	bits     []byte
	onBoard  map[int][]string
	onGround map[int][]string
	files    []api.File
	lost     int
}

func voyaged(t *testing.T, p api.Plan) *voyage {
	return &voyage{T: t, plan: p, board: begun(t, p), desk: seated(t, p), onBoard: map[int][]string{}, onGround: map[int][]string{}}
}

func (v *voyage) order(body string) bool {
	d, e := mission.Order(v.plan, v.desk, []byte(body))
	v.desk = d
	return e == api.OK
}

// tick: the ground hears, then the craft flies; what comes of what is on its way is told by two functions.
func (v *voyage) tick(inputs []int, hits []api.Hit, up func([][]byte) [][]byte, down func([]byte) []byte) api.Flown {
	v.Helper()
	s := hears(v.T, v.plan, v.desk, v.bits)
	v.desk, v.files, v.lost = s.Desk, append(v.files, s.Files...), v.lost+s.Lost
	for _, u := range s.Units {
		v.onGround[u.Apid] = append(v.onGround[u.Apid], string(u.Data))
	}
	came := up(s.Up)
	// A twin, of which nothing goes down, tells what is told.
	twin := mission.Fly(v.plan, aside(v.T, v.board), came, inputs, hits)
	for channel, apid := range []int{api.Events, api.Reports, api.Notes} {
		v.onBoard[apid] = append(v.onBoard[apid], waiting(v.T, twin.Board, channel)...)
	}
	x := mission.Fly(v.plan, v.board, came, inputs, hits)
	if x.Code != api.OK {
		v.Fatal("Fly:", x.Code)
	}
	v.board, v.bits = x.Board, down(x.Bits)
	return x
}

func allUp(l [][]byte) [][]byte { return l }

func allDown(bits []byte) []byte { return bits }

// TestToldInOrder: as long as no more symbols are wrong than can be gathered, what is told on the ground is what was told on board.
func TestToldInOrder(t *testing.T) {
	r := rand.New(rand.NewSource(144))
	for range 12 {
		p := drawnPlan(t, r)
		p.Find = 1
		p.Size += 30 * p.Depth // so that all that is told can go
		v := voyaged(t, p)
		few := []int{4, 2, 2, 1, 1}[p.Rate-1]
		noise := func(bits []byte) []byte {
			bits[r.Intn(32)] ^= 1
			for range few {
				bits[32+r.Intn(len(bits)-32)] ^= 1
			}
			return bits
		}
		for tick := range 80 {
			if tick%7 == 0 && tick < 60 {
				v.order([]string{"Scool", "Szz", "R\x00\x03", "W\x00\x03\x00\x00\x01\x05", "x"}[r.Intn(5)])
			}
			v.tick([]int{r.Intn(60)}, nil, allUp, noise)
		}
		for apid := 1; apid <= 2; apid++ {
			got, want := v.onGround[apid], v.onBoard[apid]
			if len(got) > len(want) || len(got) < len(want)/2 || !slices.Equal(got, want[:len(got)]) || v.lost > 0 {
				t.Fatalf("apid %d: %d of %d, %d frames lost", apid, len(got), len(want), v.lost)
			}
		}
	}
}

// isPart: is a row what is left of another one, if some of that is taken out?
func isPart(row, of []string) bool {
	for _, s := range row {
		i := slices.Index(of, s)
		if i < 0 {
			return false
		}
		of = of[i+1:]
	}
	return true
}

// TestStoredInOrder: whatever is lost, comes twice or late: what is stored on board is always the beginning of what was ordered, what is told on the ground was told on board, and a file comes whole or not at all.
func TestStoredInOrder(t *testing.T) {
	r := rand.New(rand.NewSource(145))
	files := 0
	for range 15 {
		p := drawnPlan(t, r)
		p.Scrub, p.Limit = 0, api.MaxTries
		v := voyaged(t, p)
		var late [][]byte
		wild := true
		up := func(l [][]byte) (out [][]byte) {
			for _, b := range append(l, late...) {
				if wild && r.Intn(3) == 0 {
					late = append(late[:min(len(late), 20):min(len(late), 20)], b)
					continue
				}
				out = append(out, b)
			}
			if wild {
				r.Shuffle(len(out), func(i, j int) { out[i], out[j] = out[j], out[i] })
			}
			return out
		}
		down := func(bits []byte) []byte {
			if wild && r.Intn(4) == 0 {
				return bits[r.Intn(len(bits)):]
			}
			return bits
		}
		ordered, stored := 0, 0
		ask := func() {
			if v.order(string([]byte{'W', 0, byte(8 + ordered%8), 0, 0, byte((ordered + 1) >> 8), byte(ordered + 1)})) {
				ordered++
			}
		}
		for tick := range 400 {
			wild = tick < 200
			switch {
			case tick == 20:
				v.order("F\x00\x07\x00\x00\x00\x08")
			case tick < 150:
				ask()
			}
			v.tick([]int{r.Intn(60)}, nil, up, down)
			stored = v.checkStored(stored, ordered)
		}
		if v.desk.Hand.Halt == api.OK && stored != ordered {
			t.Errorf("%d of %d are stored", stored, ordered)
		}
		for apid := 1; apid <= 3; apid++ {
			if !isPart(v.onGround[apid], v.onBoard[apid]) {
				t.Errorf("apid %d: something was told that was not", apid)
			}
		}
		for _, f := range v.files {
			files++
			if f.ID != 7 || f.Name != "mem" || !slices.Equal(f.Data, make([]byte, 32)) {
				t.Error(f)
			}
		}
	}
	if files < 10 {
		t.Error("only", files, "files")
	}
}

// checkStored: the words from 8 on are what so many commands make of them, no fewer than before, and no more than were ordered.
func (v *voyage) checkStored(before, ordered int) int {
	v.Helper()
	most := 0
	for _, c := range v.board.Codes[8:] {
		n, _, e := memory.Mend(c)
		if e != api.OK {
			v.Fatal(e)
		}
		most = max(most, n)
	}
	for i, c := range v.board.Codes[8:] {
		// The last command, up to the most, that was about this word.
		want := 0
		for n := most; n > 0 && n > most-8; n-- {
			if (n-1)%8 == i {
				want = n
			}
		}
		if n, _, _ := memory.Mend(c); n != want {
			v.Fatalf("word %d is %d behind %d commands", 8+i, n, most)
		}
	}
	if most < before || most > ordered {
		v.Fatalf("%d are stored, behind %d, of %d", most, before, ordered)
	}
	return most
}

// TestFileCrosses: with nothing lost a file comes whole, by all plans.
func TestFileCrosses(t *testing.T) {
	r := rand.New(rand.NewSource(146))
	for range 15 {
		p := drawnPlan(t, r)
		p.Every, p.Wait = 1000, 200
		v := voyaged(t, p)
		var want []byte
		for i := range v.board.Codes {
			n := r.Intn(1 << 32)
			v.board.Codes[i], _ = memory.Code(n)
			want = append(want, byte(n>>24), byte(n>>16), byte(n>>8), byte(n))
		}
		v.order("F\x00\x07\x00\x00\x00\x10")
		for range 900 {
			v.tick([]int{0}, nil, allUp, allDown)
			if len(v.board.Givers) == 0 && len(v.files) > 0 {
				break
			}
		}
		if !same(v.files, []api.File{{ID: 7, Name: "mem", Data: want}}) || len(v.board.Givers) > 0 || v.lost > 0 {
			t.Errorf("%+v: %v, %d givers", p, v.files, len(v.board.Givers))
		}
		if !slices.Contains(v.onBoard[api.Events], "G\x00\x07") {
			t.Errorf("%q", v.onBoard[api.Events])
		}
	}
}

// TestSafeDoesNothingLow: while the craft is safe, no act is one of a low level, whatever is asked for.
func TestSafeDoesNothingLow(t *testing.T) {
	r := rand.New(rand.NewSource(147))
	p := guarded()
	v := voyaged(t, p)
	levels := []int{0, 4, 5, 9}
	safe, free := 0, 0
	for range 3000 {
		if r.Intn(3) == 0 {
			v.order([]string{"Scalm", "Sfour", "Sfive", "Snine", "L"}[r.Intn(5)])
		}
		inputs := make([]int, 4)
		for i := range inputs {
			if r.Intn(30) == 0 {
				inputs[i] = 10
			}
		}
		was := v.board.Vigil.Safe
		x := v.tick(inputs, nil, allUp, allDown)
		for _, a := range x.Acts {
			if was && levels[a.Seq] < api.SafeLevel {
				t.Fatal(a, "while it is safe")
			}
		}
		for _, task := range x.Board.Crew.Tasks {
			if x.Board.Vigil.Safe && levels[task.Places[0].Seq] < api.SafeLevel {
				t.Fatal("a task of a low level")
			}
		}
		if was {
			safe++
		} else {
			free += len(x.Acts)
		}
	}
	if safe < 300 || free < 100 {
		t.Error(safe, free)
	}
}
