package keys_test

import (
	"bytes"
	"fmt"
	"math"
	"math/rand"
	"reflect"
	"slices"
	"testing"

	"farhail/api"
	"farhail/keys"
)

// three: the key of the examples.
func three() api.Key { return api.Key{ID: 3, Words: oneToEight(), Top: -1} }

// fresh: a key of an ID, with which nothing was opened.
func fresh(r *rand.Rand, id int) api.Key {
	return api.Key{ID: id, Words: drawnWords(r), Top: -1}
}

// slowSeal of a key, a counter and a body that may be.
func slowSeal(k api.Key, counter int, body []byte) []byte {
	out := []byte{byte(k.ID)}
	for _, p := range []int{1 << 40, 1 << 32, 1 << 24, 1 << 16, 1 << 8, 1} {
		out = append(out, byte(counter/p%256))
	}
	for i, b := range body {
		out = append(out, b^slowBlock(k.Words, counter, 1+i/64)[i%64])
	}
	return append(out, slowTag(k.Words, counter, out)...)
}

// sealed: what has to go well.
func sealed(t *testing.T, k api.Key, counter int, body []byte) []byte {
	t.Helper()
	b, e := keys.Seal(k, counter, body)
	if e != api.OK {
		t.Fatalf("Seal %+v %d %d bytes: %v", k, counter, len(body), e)
	}
	return b
}

func TestSealExample(t *testing.T) {
	want := hexed("03 00 00 00 00 00 00 8D 00 E6 B4 8A 04 EF 86 7D")
	b, e := keys.Seal(three(), 0, []byte("L"))
	if e != api.OK || !bytes.Equal(b, want) {
		t.Errorf("%X %v", b, e)
	}
	r, body, id, e := keys.Open(api.Ring{Keys: []api.Key{three()}}, want)
	after := three()
	after.Top = 0
	if e != api.OK || id != 3 || string(body) != "L" || !reflect.DeepEqual(r, api.Ring{Keys: []api.Key{after}}) {
		t.Errorf("%+v %q %d %v", r, body, id, e)
	}
}

func TestSeal(t *testing.T) {
	r := rand.New(rand.NewSource(83))
	sizes := []int{0, 1, 7, 63, 64, 65, 127, 128, 129, 999, 1000}
	for i := range 300 {
		k := fresh(r, []int{0, 255, r.Intn(256)}[r.Intn(3)])
		counter, body := drawnCounter(r), some(r, append(sizes, r.Intn(200))[i%(len(sizes)+1)])
		b := sealed(t, k, counter, body)
		if !bytes.Equal(b, slowSeal(k, counter, body)) {
			t.Fatalf("%+v %d %X: %X", k, counter, body, b)
		}
		ring, got, id, e := keys.Open(api.Ring{Keys: []api.Key{k}}, b)
		if e != api.OK || id != k.ID || !bytes.Equal(got, body) || ring.Keys[0].Top != counter || ring.Keys[0].Seen != 0 {
			t.Fatalf("%+v %d: %+v %d %v", k, counter, ring, id, e)
		}
	}
}

// Counters that were opened don't keep a key from sealing them again: they are the other side's.
func TestSealAsksNotWhatWasOpened(t *testing.T) {
	k := three()
	k.Top, k.Seen = 5, 3
	for counter := range 7 {
		if !bytes.Equal(sealed(t, k, counter, []byte{1}), slowSeal(three(), counter, []byte{1})) {
			t.Error(counter)
		}
	}
}

// badKeys: keys that may not be.
func badKeys() []api.Key {
	var out []api.Key
	with := func(change func(*api.Key)) {
		k := three()
		change(&k)
		out = append(out, k)
	}
	out = append(out, api.Key{})
	for _, n := range far(0, 255) {
		with(func(k *api.Key) { k.ID = n })
	}
	for _, l := range badWords() {
		for _, words := range l {
			with(func(k *api.Key) { k.Words = words })
		}
	}
	for _, n := range far(-1, api.MaxCounter) {
		with(func(k *api.Key) { k.Top = n })
	}
	for top, most := range map[int]int{-1: 0, 0: 0, 1: 1, 2: 3, 3: 7, 61: 1<<61 - 1, 62: 1<<62 - 1, 63: 1<<62 - 1, 64: 1<<62 - 1, api.MaxCounter: 1<<62 - 1} {
		for _, n := range append(far(0, most), most+2) {
			with(func(k *api.Key) { k.Top, k.Seen = top, n })
		}
	}
	return out
}

// goodKeys: keys at the edges of what may be.
func goodKeys() []api.Key {
	var out []api.Key
	for _, id := range []int{0, 1, 255} {
		out = append(out, api.Key{ID: id, Words: make([]int, 8), Top: -1})
	}
	for top, most := range map[int]int{0: 0, 1: 1, 2: 3, 3: 7, 61: 1<<61 - 1, 62: 1<<62 - 1, 63: 1<<62 - 1, 64: 1<<62 - 1, api.MaxCounter: 1<<62 - 1} {
		for _, n := range []int{0, most} {
			k := three()
			k.Top, k.Seen = top, n
			out = append(out, k)
		}
	}
	k := three()
	for i := range k.Words {
		k.Words[i] = math.MaxUint32
	}
	return append(out, k)
}

func TestWhichKeysMayBe(t *testing.T) {
	for _, k := range goodKeys() {
		if _, e := keys.Seal(k, 0, nil); e != api.OK {
			t.Errorf("Seal %+v: %v", k, e)
		}
		if r, e := keys.Add(api.Ring{}, k); e != api.OK || !reflect.DeepEqual(r.Keys, []api.Key{k}) {
			t.Errorf("Add %+v: %+v %v", k, r, e)
		}
		if r, e := keys.Drop(api.Ring{Keys: []api.Key{k}}, k.ID); e != api.OK || len(r.Keys) != 0 {
			t.Errorf("Drop %+v: %+v %v", k, r, e)
		}
	}
	was := api.Ring{Keys: []api.Key{{ID: 7, Words: oneToEight(), Top: 5, Seen: 3}}}
	for _, k := range badKeys() {
		// What is wrong with a key is told ahead of all else.
		if b, e := keys.Seal(k, -1, make([]byte, api.MaxSealed+1)); e != api.ErrState || len(b) != 0 {
			t.Errorf("Seal %+v: %X %v", k, b, e)
		}
		if r, e := keys.Add(was, k); e != api.ErrKind || !reflect.DeepEqual(r, was) {
			t.Errorf("Add %+v: %+v %v", k, r, e)
		}
		badRing(t, api.Ring{Keys: []api.Key{k}})
		badRing(t, api.Ring{Keys: append(slices.Clone(was.Keys), k)})
	}
}

// badRing: is a ring that may not be refused by all who are handed one, ahead of all else?
func badRing(t *testing.T, r api.Ring) {
	t.Helper()
	zero := func(what string, got api.Ring, e api.Errno) {
		t.Helper()
		if e != api.ErrState || got.Keys != nil {
			t.Errorf("%s: %+v: %+v %v", what, r, got, e)
		}
	}
	for _, b := range [][]byte{nil, slowSeal(three(), 9, []byte{1})} {
		got, body, id, e := keys.Open(r, b)
		zero("Open", got, e)
		if len(body) != 0 || id != 0 {
			t.Errorf("Open: %X %d", body, id)
		}
	}
	for _, k := range []api.Key{{}, three(), {ID: 100, Words: oneToEight()}} {
		got, e := keys.Add(r, k)
		zero("Add", got, e)
	}
	for _, id := range []int{-1, 3, 7} {
		got, e := keys.Drop(r, id)
		zero("Drop", got, e)
	}
}

// ringOf fresh keys of these IDs.
func ringOf(r *rand.Rand, ids ...int) api.Ring {
	var out api.Ring
	for _, id := range ids {
		out.Keys = append(out.Keys, fresh(r, id))
	}
	return out
}

func TestRingsThatMayNotBe(t *testing.T) {
	r := rand.New(rand.NewSource(84))
	for _, ids := range [][]int{{3, 3}, {7, 3, 7}, {0, 1, 2, 3, 4, 5, 6, 0}, {1, 0, 2, 3, 4, 5, 6, 6}, {0, 1, 2, 3, 4, 5, 6, 7, 8}} {
		badRing(t, ringOf(r, ids...))
	}
}

func TestSealRefuses(t *testing.T) {
	long := make([]byte, api.MaxSealed+1)
	for _, n := range far(0, api.MaxCounter) {
		for _, body := range [][]byte{nil, long} {
			if b, e := keys.Seal(three(), n, body); e != api.ErrRange || len(b) != 0 {
				t.Errorf("%d: %X %v", n, b, e)
			}
		}
	}
	if b, e := keys.Seal(three(), 0, long); e != api.ErrSize || len(b) != 0 {
		t.Errorf("%X %v", b, e)
	}
}

// stays: is something refused, and the ring as it was?
func stays(t *testing.T, want api.Errno, r api.Ring, b []byte) {
	t.Helper()
	got, body, id, e := keys.Open(r, b)
	if e != want || !reflect.DeepEqual(got, r) || len(body) != 0 || id != 0 {
		t.Errorf("%X: %+v %X %d %v, not %v", b, got, body, id, e, want)
	}
}

func TestOpenSizes(t *testing.T) {
	k := three()
	ring := api.Ring{Keys: []api.Key{k}}
	for n := range 15 {
		stays(t, api.ErrSize, ring, make([]byte, n))
		stays(t, api.ErrSize, ring, slowSeal(k, 0, nil)[:n])
	}
	for _, n := range []int{1016, 1017, 2015, 5000} {
		stays(t, api.ErrSize, ring, make([]byte, n))
	}
	stays(t, api.ErrSize, ring, slowSeal(k, 0, make([]byte, 1001))) // all else is right
	for _, n := range []int{0, 1000} {
		if _, body, _, e := keys.Open(ring, slowSeal(k, 0, make([]byte, n))); e != api.OK || len(body) != n {
			t.Errorf("%d bytes: %d %v", n, len(body), e)
		}
	}
}

func TestOpenTellsAWrongTag(t *testing.T) {
	r := rand.New(rand.NewSource(85))
	ring := ringOf(r, 3, 200, 7)
	ring.Keys[1].Top, ring.Keys[1].Seen = 70, 5
	good := slowSeal(ring.Keys[1], 70, some(r, 9)) // too old, which a wrong tag is told ahead of
	stays(t, api.ErrOld, ring, good)
	for i := range good {
		for bit := range 8 {
			b := slices.Clone(good)
			b[i] ^= 1 << bit
			stays(t, api.ErrKey, ring, b)
		}
	}
	for i := range good {
		stays(t, api.ErrKey, ring, append(slices.Delete(slices.Clone(good), i, i+1), 0))
	}
	other := fresh(r, 200) // of the same ID, with other words
	stays(t, api.ErrKey, ring, slowSeal(other, 71, nil))
	stays(t, api.ErrKey, ring, slowSeal(fresh(r, 4), 0, nil))
	stays(t, api.ErrKey, api.Ring{}, good)
}

func TestSeenExamples(t *testing.T) {
	k := three()
	k.Top, k.Seen = 5, 3 // 4 and 3 were opened
	for counter, seen := range map[int]int{0: 19, 1: 11, 2: 7} {
		after := k
		after.Seen = seen
		opens(t, k, counter, after)
	}
	for _, counter := range []int{3, 4, 5} {
		stays(t, api.ErrOld, api.Ring{Keys: []api.Key{k}}, slowSeal(k, counter, nil))
	}
	for counter, seen := range map[int]int{6: 7, 7: 14, 8: 28, 65: 7 << 59, 66: 3<<60 | 0, 67: 1 << 61, 68: 0, 69: 0, 1000: 0, api.MaxCounter: 0} {
		after := k
		after.Top, after.Seen = counter, seen
		opens(t, k, counter, after)
	}
	k.Top, k.Seen = 100, 0
	after := k
	after.Seen = 1 << 61
	opens(t, k, 38, after)
	stays(t, api.ErrOld, api.Ring{Keys: []api.Key{k}}, slowSeal(k, 37, nil))
	stays(t, api.ErrOld, api.Ring{Keys: []api.Key{after}}, slowSeal(k, 38, nil))
	stays(t, api.ErrOld, api.Ring{Keys: []api.Key{k}}, slowSeal(k, 0, nil))
}

// opens: is a counter opened with a key, and the key after it so?
func opens(t *testing.T, k api.Key, counter int, after api.Key) {
	t.Helper()
	r, _, id, e := keys.Open(api.Ring{Keys: []api.Key{k}}, slowSeal(k, counter, nil))
	if e != api.OK || id != k.ID || !reflect.DeepEqual(r.Keys, []api.Key{after}) {
		t.Errorf("%+v, counter %d: %+v %d %v, not %+v", k, counter, r, id, e, after)
	}
}

// With no counter opened there is nothing that Seen could tell of one below 0.
func TestFirstCounter(t *testing.T) {
	for _, counter := range []int{0, 1, 2, 61, 62, 63, word, api.MaxCounter} {
		after := three()
		after.Top = counter
		opens(t, three(), counter, after)
	}
	k := three()
	k.Top = 0
	after := k
	after.Top, after.Seen = 1, 1
	opens(t, k, 1, after)
}

// Whatever order things come in: a counter is let in just if it is new, and not more than 62 below the highest one.
func TestOnceInAnyOrder(t *testing.T) {
	r := rand.New(rand.NewSource(86))
	for range 60 {
		ring := ringOf(r, 9, 0, 255)
		base := []int{0, 0, word - 50, api.MaxCounter - 300}[r.Intn(4)]
		were := make([][]int, 3) // the counters that were opened with each key
		for range 150 {
			i := r.Intn(3)
			k := ring.Keys[i]
			counter := base + r.Intn(300)
			if near := k.Top - []int{60, 61, 62, 63, 64, 0, -1, -2, -62, -63}[r.Intn(10)]; r.Intn(2) == 0 && near >= 0 && near <= api.MaxCounter {
				counter = near
			}
			body := some(r, r.Intn(4))
			after, got, id, e := keys.Open(ring, slowSeal(k, counter, body))
			want := api.OK
			if slices.Contains(were[i], counter) || counter < k.Top-62 {
				want = api.ErrOld
			} else {
				were[i] = append(were[i], counter)
			}
			if e != want || !reflect.DeepEqual(after, ringOfOpened(ring, were)) {
				t.Fatalf("%+v: counter %d of key %d: %+v %v, not %v", ring, counter, i, after, e, want)
			}
			if e == api.OK && (!bytes.Equal(got, body) || id != k.ID) || e != api.OK && (len(got) != 0 || id != 0) {
				t.Fatalf("%X %d, not %X", got, id, body)
			}
			ring = after
		}
	}
}

// ringOfOpened: what a ring's keys are, if just these counters were opened.
func ringOfOpened(r api.Ring, were [][]int) api.Ring {
	out := api.Ring{Keys: slices.Clone(r.Keys)}
	for i, l := range were {
		k := &out.Keys[i]
		k.Top, k.Seen = slices.Max(append(l, -1)), 0
		for bit := range 62 {
			if n := k.Top - 1 - bit; slices.Contains(l, n) {
				k.Seen += 1 << bit
			}
		}
	}
	return out
}

func TestAddAndDrop(t *testing.T) {
	r := rand.New(rand.NewSource(87))
	for range 200 {
		var ring api.Ring
		var want []api.Key
		for range 40 {
			id := r.Intn(12)
			at := slices.IndexFunc(want, func(k api.Key) bool { return k.ID == id })
			var e, is api.Errno
			if r.Intn(3) > 0 {
				k := fresh(r, id)
				ring, e = keys.Add(ring, k)
				switch {
				case at >= 0:
					is = api.ErrTwice
				case len(want) == 8:
					is = api.ErrFull
				default:
					want = append(want, k)
				}
			} else {
				ring, e = keys.Drop(ring, id)
				if is = api.ErrName; at >= 0 {
					is, want = api.OK, slices.Delete(want, at, at+1)
				}
			}
			if e != is || fmt.Sprint(ring.Keys) != fmt.Sprint(want) {
				t.Fatalf("%d: %+v %v, not %+v %v", id, ring, e, want, is)
			}
		}
	}
}

func TestAddAndDropRefuse(t *testing.T) {
	r := rand.New(rand.NewSource(88))
	full := ringOf(r, 0, 1, 2, 3, 4, 5, 6, 255)
	for _, c := range []struct {
		k    api.Key
		want api.Errno
	}{
		{api.Key{ID: 3, Top: -1}, api.ErrKind},
		{api.Key{ID: 300, Words: oneToEight(), Top: -1}, api.ErrKind},
		{fresh(r, 3), api.ErrTwice},
		{fresh(r, 255), api.ErrTwice},
		{fresh(r, 7), api.ErrFull},
	} {
		if got, e := keys.Add(full, c.k); e != c.want || !reflect.DeepEqual(got, full) {
			t.Errorf("%+v: %+v %v, not %v", c.k, got, e, c.want)
		}
	}
	for _, id := range append(far(0, 255), 7, 254) {
		if got, e := keys.Drop(full, id); e != api.ErrName || !reflect.DeepEqual(got, full) {
			t.Errorf("%d: %+v %v", id, got, e)
		}
	}
	if got, e := keys.Drop(api.Ring{}, 0); e != api.ErrName || len(got.Keys) != 0 {
		t.Errorf("%+v %v", got, e)
	}
}
