package mission_test

import (
	"math"
	"math/rand"
	"reflect"
	"testing"

	"farhail/api"
	"farhail/mission"
)

// spoil one thing within a value, drawn.
func spoil(r *rand.Rand, v reflect.Value) {
	switch v.Kind() {
	case reflect.Struct:
		spoil(r, v.Field(r.Intn(v.NumField())))
	case reflect.Array:
		spoil(r, v.Index(r.Intn(v.Len())))
	case reflect.Slice:
		spoilList(r, v)
	case reflect.Int:
		odd := []int64{0, 1, -1, 2, -2, 255, 256, -256, math.MaxInt32, math.MinInt32, math.MaxInt64, math.MinInt64, v.Int() + 1, v.Int() - 1, int64(r.Intn(3000))}
		v.SetInt(odd[r.Intn(len(odd))])
	case reflect.Uint8:
		v.SetUint(uint64(r.Intn(256)))
	case reflect.Bool:
		v.SetBool(!v.Bool())
	case reflect.String:
		odd := []string{"", "x", "\xff\x00", "SEQUENCE", v.String() + ";", "SEQUENCE x LEVEL 1 LIMIT 9: END;", "cool", "shut"}
		v.SetString(odd[r.Intn(len(odd))])
	}
}

// spoilList: another length, or one of its things.
func spoilList(r *rand.Rand, v reflect.Value) {
	own := reflect.MakeSlice(v.Type(), v.Len(), v.Len())
	reflect.Copy(own, v)
	switch {
	case r.Intn(3) > 0 && own.Len() > 0:
		spoil(r, own.Index(r.Intn(own.Len())))
	case r.Intn(2) == 0 && own.Len() > 0:
		own = own.Slice(0, r.Intn(own.Len()))
	default:
		more := reflect.New(v.Type().Elem()).Elem()
		if own.Len() > 0 && r.Intn(2) == 0 {
			more.Set(own.Index(r.Intn(own.Len())))
		}
		own = reflect.Append(own, more)
	}
	v.Set(own)
}

// spoilt: a value in which some things are others.
func spoilt[T any](r *rand.Rand, x T) T {
	v := reflect.New(reflect.TypeOf(x)).Elem()
	v.Set(reflect.ValueOf(x))
	for range 1 + r.Intn(2) {
		spoil(r, v)
	}
	return v.Interface().(T)
}

// TestWild: whatever is handed in, each call ends, none panics; what is refused answers nothing else; what is answered can be gone on with.
func TestWild(t *testing.T) {
	r := rand.New(rand.NewSource(149))
	p := busy()
	b, d := begun(t, p), seated(t, p)
	var bits []byte
	codes := map[api.Errno]int{}
	for tick := range 4000 {
		d, _ = mission.Order(p, d, []byte([]string{"Scool", "F\x00\x07\x00\x02\x00\x03", "L", "Scalls"}[tick%4]))
		s := mission.Hear(p, d, bits)
		x := mission.Fly(p, b, s.Up, []int{r.Intn(60)}, nil)
		if s.Code != api.OK || x.Code != api.OK {
			t.Fatal(s.Code, x.Code)
		}
		b, d, bits = x.Board, s.Desk, x.Bits
		if tick%200 == 199 {
			b, d = begun(t, p), seated(t, p)
		}
		q := p
		if r.Intn(4) == 0 {
			q = spoilt(r, p)
		}
		board, desk := spoilt(r, b), spoilt(r, d)
		y := mission.Fly(q, board, spoilt(r, s.Up), spoilt(r, []int{5}), []api.Hit{{Word: r.Int() - r.Int(), Bit: r.Int() - r.Int()}, {Word: r.Intn(20), Bit: r.Intn(50)}})
		if y.Code != api.OK && !same(y, api.Flown{Code: y.Code}) {
			t.Fatal("refused, and something is answered")
		}
		if y.Code == api.OK && mission.Fly(q, y.Board, nil, make([]int, q.Inputs), nil).Code != api.OK {
			t.Fatalf("a board that may not be is answered, of %+v", board)
		}
		z := mission.Hear(q, desk, spoilt(r, bits))
		if z.Code != api.OK && !same(z, api.Sat{Code: z.Code}) {
			t.Fatal("refused, and something is answered")
		}
		if z.Code == api.OK && mission.Hear(q, z.Desk, nil).Code != api.OK {
			t.Fatalf("a desk that may not be is answered, of %+v", desk)
		}
		o, e := mission.Order(q, desk, make([]byte, r.Intn(1100)))
		if (e == api.ErrPlan || e == api.ErrState) != same(o, api.Desk{}) {
			t.Fatal("a desk is answered, or none", e)
		}
		mission.Begin(q, spoilt(r, b.Ring))
		mission.Sit(q, spoilt(r, d.Key))
		codes[y.Code]++
		codes[z.Code]++
	}
	for _, e := range []api.Errno{api.OK, api.ErrPlan, api.ErrState} {
		if codes[e] < 200 {
			t.Errorf("%v only %d times", e, codes[e])
		}
	}
}
