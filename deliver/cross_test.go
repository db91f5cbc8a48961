package deliver_test

import (
	"bytes"
	"math/rand"
	"slices"
	"testing"

	"farhail/api"
	"farhail/deliver"
)

// link carries notes as bytes, loses some, brings some twice, and in another order.
type link struct {
	r     *rand.Rand
	worst int // of ten notes so many are lost
	on    [][]byte
}

func (l *link) send(t *testing.T, notes []api.Note) {
	t.Helper()
	for _, n := range notes {
		b, e := deliver.Encode(n)
		if e != api.OK {
			t.Fatalf("%+v: %v", n, e)
		}
		if l.r.Intn(10) >= l.worst {
			l.on = append(l.on, b)
		}
		if l.worst > 0 && l.r.Intn(10) == 0 {
			l.on = append(l.on, b)
		}
	}
}

// come: some of the notes, all of them if none is lost any more.
func (l *link) come(t *testing.T) (out []api.Note) {
	t.Helper()
	for range len(l.on) {
		at := 0
		if l.worst > 0 {
			at = l.r.Intn(len(l.on))
		}
		n, e := deliver.Decode(l.on[at])
		if e != api.OK {
			t.Fatalf("%X: %v", l.on[at], e)
		}
		out = append(out, n)
		l.on = slices.Delete(l.on, at, at+1)
		if l.worst > 0 && l.r.Intn(3) == 0 {
			break
		}
	}
	return out
}

// cross: so many ticks of both; what was whole once stays so, and is what was given.
func cross(t *testing.T, g api.Giver, k api.Taker, down, up *link, ticks int) (api.Giver, api.Taker) {
	t.Helper()
	var l []api.Note
	for range ticks {
		g, l, _ = deliver.Give(g)
		down.send(t, l)
		for _, n := range down.come(t) {
			k, l, _ = deliver.Take(k, n)
			up.send(t, l)
		}
		k, l, _ = deliver.Wait(k)
		up.send(t, l)
		for _, n := range up.come(t) {
			g, l, _ = deliver.Reply(g, n)
			down.send(t, l)
		}
		name, b, e := deliver.Whole(k)
		if e == api.OK && (name != g.Name || !bytes.Equal(b, g.File)) || e != api.OK && e != api.ErrMore {
			t.Fatalf("%q %X %v", name, b, e)
		}
	}
	return g, k
}

// TestCrossing: when no note is lost any more, both come to an end, if neither gave up ahead of it.
func TestCrossing(t *testing.T) {
	r := rand.New(rand.NewSource(104))
	count := map[[2]api.Stage]int{}
	for i := range 300 {
		file := some(r, one(r, 0, 1, r.Intn(100), 3000))
		g := offered(t, 5, "a file", file, 1+r.Intn(40), 1+r.Intn(10), 3+r.Intn(4), 3+r.Intn(20))
		k := expected(t, 5, 3+r.Intn(4), 3+r.Intn(20))
		worst := i % 10
		down, up := &link{r: r, worst: worst}, &link{r: r, worst: worst}
		g, k = cross(t, g, k, down, up, r.Intn(60))
		gaveUp := g.Stage == api.Failed || g.Tries == g.Limit || k.Stage == api.Failed || k.Stage == api.Going && k.Tries == k.Limit
		down.worst, up.worst = 0, 0
		g, k = cross(t, g, k, down, up, 6000/max(g.Most*g.Burst, 8)+200)
		count[[2]api.Stage{g.Stage, k.Stage}]++
		if g.Stage != api.Over && g.Stage != api.Failed {
			t.Fatalf("%+v", g)
		}
		if !gaveUp && (g.Stage != api.Over || k.Stage != api.Over || k.Tries < k.Limit) {
			t.Fatalf("%+v %+v", g, k)
		}
	}
	if count[[2]api.Stage{api.Over, api.Over}] < 200 {
		t.Error(count)
	}
}

// TestNothingIsLost: then a file crosses at once, and nothing goes behind it.
func TestNothingIsLost(t *testing.T) {
	r := rand.New(rand.NewSource(105))
	for _, size := range []int{0, 1, 9, 10, 11, 1000, api.MaxFile} {
		g := offered(t, 65535, "\x00", some(r, size), 1024, 50, 2, 1)
		k := expected(t, 65535, 2, 1)
		g, k = cross(t, g, k, &link{r: r}, &link{r: r}, 3)
		if g.Stage != api.Over || k.Stage != api.Over || k.Tries != 1 {
			t.Errorf("%d bytes: %d %d", size, g.Stage, k.Stage)
		}
		_, l, _ := deliver.Give(g)
		_, m, _ := deliver.Wait(k)
		if len(l)+len(m) > 0 {
			t.Errorf("%+v %+v", l, m)
		}
	}
}

// TestSpoiltFile: bytes that are not what was given are never told as whole.
func TestSpoiltFile(t *testing.T) {
	g := offered(t, 1, "log", []byte{1, 2, 3, 4}, 2, 9, 2, 3)
	k := expected(t, 1, 2, 3)
	g, l, _ := deliver.Give(g)
	l[1].Data[0] ^= 1
	var up []api.Note
	for _, n := range l {
		k, up, _ = deliver.Take(k, n)
	}
	if told(up) != told([]api.Note{{Kind: api.Seen, ID: 1, Of: api.End}, {Kind: api.Done, ID: 1, Code: api.ErrSum}}) {
		t.Errorf("%+v", up)
	}
	for _, n := range up {
		g, l, _ = deliver.Reply(g, n)
	}
	if told(l) != told([]api.Note{{Kind: api.Seen, ID: 1, Of: api.Done}}) || g.Stage != api.Failed || k.Stage != api.Failed {
		t.Errorf("%+v %+v %+v", g, k, l)
	}
	if _, _, e := deliver.Whole(k); e != api.ErrMore {
		t.Error(e)
	}
}

// TestNobodyAnswers: both give up, behind so many tries.
func TestNobodyAnswers(t *testing.T) {
	g := offered(t, 1, "log", nil, 1, 9, 3, 4)
	k := expected(t, 1, 2, 5)
	k, _, _ = deliver.Take(k, api.Note{Kind: api.End, ID: 1})
	var ends, gaps int
	for range 1 + 3*5 {
		var l []api.Note
		if g.Stage == api.Failed {
			t.Error("the giver gave up too early")
		}
		g, l, _ = deliver.Give(g)
		for _, n := range l {
			if n.Kind == api.End {
				ends++
			}
		}
	}
	for range 2 * 6 {
		var l []api.Note
		if k.Stage == api.Failed {
			t.Error("the taker gave up too early")
		}
		k, l, _ = deliver.Wait(k)
		gaps += len(l)
	}
	if g.Stage != api.Failed || k.Stage != api.Failed || ends != 5 || gaps != 5 {
		t.Errorf("%+v %+v %d %d", g, k, ends, gaps)
	}
}
