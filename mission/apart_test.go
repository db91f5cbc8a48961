package mission_test

import (
	"fmt"
	"math/rand"
	"reflect"
	"slices"
	"strings"
	"sync"
	"testing"

	"farhail/api"
	"farhail/mission"
)

// list: where a list's memory lies, its spare room too.
type list struct{ from, to uintptr }

// look at a value: its lists, those within lists and their rooms too, and all that can be seen of it.
func look(v reflect.Value, seen *strings.Builder) (l []list) {
	switch v.Kind() {
	case reflect.Slice:
		all := v.Slice(0, v.Cap())
		if v.Cap() > 0 {
			from := all.Pointer()
			l = append(l, list{from, from + uintptr(v.Cap())*v.Type().Elem().Size()})
		}
		fmt.Fprint(seen, "list of ", v.Len(), ":")
		for i := range all.Len() {
			l = append(l, look(all.Index(i), seen)...)
		}
		return l
	case reflect.Struct:
		for i := range v.NumField() {
			l = append(l, look(v.Field(i), seen)...)
		}
		return l
	}
	fmt.Fprint(seen, v, ";")
	return nil
}

// lookAll: of several values.
func lookAll(values []any) (l []list, text string) {
	var seen strings.Builder
	for _, v := range values {
		l = append(l, look(reflect.ValueOf(v), &seen)...)
	}
	return l, seen.String()
}

// apart: does a call leave alone what is handed in, and share no memory with it, nor between the lists that it answers?
func apart(t *testing.T, what string, in []any, call func() []any) {
	t.Helper()
	given, was := lookAll(in)
	told, _ := lookAll(call())
	if _, is := lookAll(in); is != was {
		t.Errorf("%s: what was handed in is changed", what)
	}
	all := slices.Concat(given, told)
	slices.SortFunc(all, func(a, b list) int { return int(int64(a.from) - int64(b.from)) })
	for i := 1; i < len(all); i++ {
		if all[i].from < all[i-1].to && (slices.Contains(told, all[i]) || slices.Contains(told, all[i-1])) {
			t.Errorf("%s: the answer shares memory with what was handed in, or with itself", what)
		}
	}
}

// roomy: the same value, of which all lists, those within lists too, have spare room in which something stands.
func roomy[T any](x T) T {
	v := reflect.New(reflect.TypeOf(x)).Elem()
	v.Set(reflect.ValueOf(x))
	widen(v)
	return v.Interface().(T)
}

func widen(v reflect.Value) {
	switch v.Kind() {
	case reflect.Slice:
		wider := reflect.MakeSlice(v.Type(), v.Len()+3, v.Len()+3)
		reflect.Copy(wider, v)
		for i := range v.Len() {
			widen(wider.Index(i))
		}
		for i := v.Len(); i < wider.Len(); i++ {
			fill(wider.Index(i))
		}
		v.Set(wider.Slice(0, v.Len()))
	case reflect.Struct:
		for i := range v.NumField() {
			widen(v.Field(i))
		}
	}
}

// fill a place of the spare room, as far as it is plain.
func fill(v reflect.Value) {
	switch v.Kind() {
	case reflect.Int:
		v.SetInt(77)
	case reflect.Uint8:
		v.SetUint(77)
	case reflect.Bool:
		v.SetBool(true)
	}
}

// busy: a plan of whose flight there is something in all lists.
func busy() api.Plan {
	p := plan()
	p.Text += "SEQUENCE long LEVEL 1 LIMIT 900: REPEAT 9: CALL shut; REPEAT 9: WAIT 3; END; END; END; SEQUENCE calls LEVEL 1 LIMIT 999: CALL long; END;"
	p.Guard.Most, p.Guard.Window = 3, 20
	p.Guard.Monitors = append(p.Guard.Monitors, api.Monitor{Of: 0, High: 20, For: 1, Tier: 1, Then: "long"})
	return p
}

// TestApart: nothing that is handed in is changed, and no answer shares memory.
func TestApart(t *testing.T) {
	r := rand.New(rand.NewSource(148))
	p := roomy(busy())
	apart(t, "Check", []any{p}, func() []any { return []any{mission.Check(p)} })
	keys, k := roomy(ring()), roomy(key())
	apart(t, "Begin", []any{p, keys}, func() []any {
		b, _ := mission.Begin(p, keys)
		c, _ := mission.Begin(p, keys)
		return []any{b, c}
	})
	apart(t, "Sit", []any{p, k}, func() []any {
		d, _ := mission.Sit(p, k)
		e, _ := mission.Sit(p, k)
		return []any{d, e}
	})
	b, d := begun(t, p), seated(t, p)
	var bits []byte
	bodies := []string{"Scool", "Scalls", "Slong", "V\x01\x00\x00\x00\x09", "L", "W\x00\x03\x00\x00\x01\x05", "R\x00\x03", "F\x00\x07\x00\x02\x00\x03", "F\x00\x08\x00\x02\x00\x03", "x"}
	for tick := range 120 {
		desk := roomy(d)
		body := roomy([]byte(bodies[r.Intn(len(bodies))]))
		if tick%30 == 29 {
			body = make([]byte, 1001) // refused: the desk is as it was, in new memory
		}
		apart(t, "Order", []any{p, desk, body}, func() []any {
			var l []any
			for range 2 {
				d, _ = mission.Order(p, desk, body)
				l = append(l, d)
			}
			return l
		})
		desk, came := roomy(d), roomy(bits)
		var s api.Sat
		apart(t, "Hear", []any{p, desk, came}, func() []any {
			s = mission.Hear(p, desk, came)
			return []any{s, mission.Hear(p, desk, came)}
		})
		board, up, inputs, hits := roomy(b), roomy(s.Up), roomy([]int{r.Intn(60)}), roomy([]api.Hit{{Word: r.Intn(16), Bit: r.Intn(39)}})
		if r.Intn(5) == 0 {
			up = nil
		}
		var x api.Flown
		apart(t, "Fly", []any{p, board, up, inputs, hits}, func() []any {
			x = mission.Fly(p, board, up, inputs, hits)
			return []any{x, mission.Fly(p, board, up, inputs, hits)}
		})
		if s.Code != api.OK || x.Code != api.OK {
			t.Fatal(s.Code, x.Code)
		}
		b, d, bits = x.Board, s.Desk, x.Bits
	}
}

// TestApartInParts: what is handed in as half of something, and what is refused.
func TestApartInParts(t *testing.T) {
	p := roomy(busy())
	d := seated(t, p)
	d.Left = []byte{1, 0, 1}
	d.Listener.Ears[2] = api.Ear{Next: 3, Rest: []byte{0, 3}}
	d.Joins[1] = api.Joined{Apid: 2, Next: 5, Open: true, Unit: []byte{1, 2, 3}}
	x := taker(t, 7)
	x.Have, x.File = [][2]int{{0, 2}}, []byte{1, 2}
	d.Takers = []api.Taker{x}
	d.Hand.Sent = [][]byte{{1}}
	d = roomy(d)
	for _, bits := range [][]byte{nil, make([]byte, 7), masted(t, p).next()} {
		bits := roomy(bits)
		apart(t, "Hear", []any{p, d, bits}, func() []any { return []any{mission.Hear(p, d, bits), mission.Hear(p, d, bits)} })
	}
	for _, change := range []func(d *api.Desk){func(d *api.Desk) {}, func(d *api.Desk) { d.Counter = api.MaxCounter }, func(d *api.Desk) { d.Left = []byte{2} }} {
		d := roomy(d)
		change(&d)
		for _, body := range [][]byte{nil, make([]byte, 1001)} {
			apart(t, "Order", []any{p, d, body}, func() []any {
				a, _ := mission.Order(p, d, body)
				b, _ := mission.Order(p, d, body)
				return []any{a, b}
			})
		}
	}
	b := begun(t, p)
	b.Givers = []api.Giver{giver(t, 1), giver(t, 2)}
	b.Sender.Queues[4].Packets = [][]byte{somePacket(), somePacket()}
	b.Crew = crewOf(t, p, "calls", "shut", "cool")
	b = roomy(b)
	apart(t, "Fly", []any{p, b}, func() []any {
		return []any{mission.Fly(p, b, nil, []int{30}, nil), mission.Fly(p, b, nil, []int{30}, nil)}
	})
}

// TestAtOnce: many may ask at the same time, about the same things.
func TestAtOnce(t *testing.T) {
	p := busy()
	startBoard, startDesk := begun(t, p), seated(t, p)
	told := make([]string, 8)
	var all sync.WaitGroup
	for i := range told {
		all.Go(func() {
			b, d := startBoard, startDesk
			var bits []byte
			for tick := range 40 {
				d, _ = mission.Order(p, d, []byte([]string{"Scool", "F\x00\x07\x00\x02\x00\x03", "L"}[tick%3]))
				s := mission.Hear(p, d, bits)
				x := mission.Fly(p, b, s.Up, []int{tick % 60}, []api.Hit{{Word: tick % 16}})
				b, d, bits = x.Board, s.Desk, x.Bits
				told[i] += fmt.Sprint(s, x)
			}
		})
	}
	all.Wait()
	for _, s := range told {
		if s != told[0] {
			t.Fatal("not all were told the same")
		}
	}
}
