package fact_test

import (
	"math/rand"
	"slices"
	"testing"

	"consol/api"
	"consol/fact"
)

func f(period, value, day int) api.Fact {
	return api.Fact{Issuer: 3, Name: "cash", Period: period, Value: value, Day: day}
}

func example() []api.Fact { return []api.Fact{f(90, 500, 100), f(180, 700, 200), f(90, 400, 210)} }

func wrongs() []api.Fact {
	l := make([]api.Fact, 9)
	for i := range l {
		l[i] = f(1, 2, 3)
	}
	l[0].Issuer, l[1].Issuer, l[2].Name, l[3].Name, l[4].Period, l[5].Period, l[6].Day, l[7].Value, l[8].Value = -1, 60, "let", "", -1, 4, 200001, -1, api.MaxMoney+1
	return l
}

func TestP24_1Add(t *testing.T) {
	if !fact.Right(example()) || !fact.Right(nil) || fact.Right([]api.Fact{f(1, 1, 5), f(1, 1, 4)}) || fact.Right(slices.Repeat([]api.Fact{f(1, 1, 1)}, 10001)) {
		t.Error("right")
	}
	for i, w := range wrongs() {
		if l, e := fact.Add(nil, w); fact.Right([]api.Fact{w}) || len(l) != 0 || e != api.ErrArg {
			t.Error(i)
		}
		if _, e := fact.Add([]api.Fact{w}, f(1, 1, 200000)); e != api.ErrArg {
			t.Error(i)
		}
	}
	if l, e := fact.Add(example(), f(1, 1, 209)); len(l) != 0 || e != api.ErrEarly {
		t.Error("early")
	}
	if l, e := fact.Add(example(), f(210, 0, 210)); e != api.OK || len(l) != 4 || l[3] != f(210, 0, 210) || l[0] != example()[0] {
		t.Error(l, e)
	}
	full := slices.Repeat([]api.Fact{f(1, 1, 5)}, 10000)
	if _, e := fact.Add(full, f(1, 1, 5)); e != api.ErrFull {
		t.Error("full")
	}
	if _, e := fact.Add(full, f(1, 1, 4)); e != api.ErrEarly {
		t.Error("early comes first")
	}
}

func TestP24_2Value(t *testing.T) {
	for _, c := range []struct {
		period, day, want int
		ok                bool
	}{{100, 99, 0, false}, {100, 100, 500, true}, {100, 209, 500, true}, {100, 210, 400, true}, {180, 199, 500, true}, {180, 200, 700, true}, {180, 300, 700, true}, {89, 300, 0, false}, {-5, 1 << 40, 0, false}, {1 << 40, 1 << 40, 700, true}} {
		if n, ok := fact.Value(example(), 3, "cash", c.period, c.day); n != c.want || ok != c.ok {
			t.Error(c, n, ok)
		}
	}
	if _, ok := fact.Value(example(), 4, "cash", 180, 300); ok {
		t.Error("issuer")
	}
	if _, ok := fact.Value(example(), 3, "no name", 180, 300); ok {
		t.Error("name")
	}
	if _, ok := fact.Value(append(example(), f(1, 1, 1)), 3, "cash", 180, 300); ok {
		t.Error("facts are not right")
	}
	l := append(example(), api.Fact{Issuer: 3, Name: "a9", Day: 220, Value: 4}, api.Fact{Issuer: 2, Name: "b", Day: 220})
	names, values := fact.Known(l, 3, 180, 230)
	if !slices.Equal(names, []string{"a9", "cash"}) || !slices.Equal(values, []int{4, 700}) {
		t.Error(names, values)
	}
	if names, values := fact.Known(append(l, f(1, 1, 1)), 3, 180, 230); len(names) != 0 || len(values) != 0 {
		t.Error("facts are not right")
	}
}

func TestP24_3Restated(t *testing.T) {
	l := example()
	if !fact.Restated(l[:2], l[2]) || fact.Restated(l[:1], l[1]) || fact.Restated(nil, l[0]) || !fact.Restated([]api.Fact{{Name: "?"}}, api.Fact{Name: "?", Value: 5, Day: -7}) || fact.Restated([]api.Fact{{Name: "?"}}, api.Fact{Name: "?", Issuer: 1}) {
		t.Error("restated")
	}
}

func TestP24_4Fresh(t *testing.T) {
	l := append(make([]api.Fact, 0, 9), example()...)
	a, _ := fact.Add(l, f(1, 1, 300))
	b, _ := fact.Add(l, f(2, 2, 300))
	a[0].Value = 77
	if a[3].Period != 1 || b[3].Period != 2 || l[0].Value != 500 || b[0].Value != 500 {
		t.Error("shared")
	}
}

func random(r *rand.Rand) []api.Fact {
	var l []api.Fact
	day := 0
	for range r.Intn(12) {
		day += r.Intn(3)
		l = append(l, api.Fact{Issuer: r.Intn(2), Name: []string{"a", "b"}[r.Intn(2)], Period: r.Intn(day + 1), Value: r.Intn(100), Day: day})
	}
	return l
}

func TestP24_5Later(t *testing.T) {
	r := rand.New(rand.NewSource(1))
	for range 500 {
		l := random(r)
		if len(l) == 0 {
			continue
		}
		last := l[len(l)-1]
		for issuer := range 2 {
			for _, name := range []string{"a", "b"} {
				for period := range 12 {
					for day := range 25 {
						m, ok := fact.Value(l[:len(l)-1], issuer, name, period, day)
						n, ok2 := fact.Value(l, issuer, name, period, day)
						if (m != n || ok != ok2) && (day < last.Day || issuer != last.Issuer || name != last.Name || period < last.Period) {
							t.Fatal(l)
						}
					}
				}
			}
		}
	}
}

func TestP24_6Reported(t *testing.T) {
	r := rand.New(rand.NewSource(2))
	for range 300 {
		for i, l := 0, random(r); i < len(l); i++ {
			x := l[i]
			if n, ok := fact.Value(l[:i+1], x.Issuer, x.Name, x.Period, x.Day); n != x.Value || !ok {
				t.Fatal(l)
			}
			if fact.Restated(l[:i], x) && x.Day > l[i-1].Day {
				a, _ := fact.Value(l[:i+1], x.Issuer, x.Name, x.Period, x.Day-1)
				b, _ := fact.Value(l[:i], x.Issuer, x.Name, x.Period, x.Day-1)
				if a != b {
					t.Fatal("before its day")
				}
			}
		}
	}
}

func TestP24_7Known(t *testing.T) {
	r := rand.New(rand.NewSource(3))
	for range 300 {
		l := random(r)
		for period := range 10 {
			names, values := fact.Known(l, 1, period, 9)
			for i, name := range names {
				if n, ok := fact.Value(l, 1, name, period, 9); n != values[i] || !ok {
					t.Fatal(l)
				}
			}
			for _, name := range []string{"a", "b"} {
				if _, ok := fact.Value(l, 1, name, period, 9); ok != slices.Contains(names, name) {
					t.Fatal(l)
				}
			}
		}
	}
}

func TestP24_1Limits(t *testing.T) {
	x := api.Fact{Issuer: 59, Name: "cash", Period: 200000, Value: api.MaxMoney, Day: 200000}
	if l, e := fact.Add(nil, x); e != api.OK || !fact.Right(l) {
		t.Error(e)
	}
	if l, e := fact.Add([]api.Fact{f(1, 1, 5)}, f(1, 1, 4)); len(l) != 0 || e != api.ErrEarly {
		t.Error("after one fact", e)
	}
	if !fact.Right(slices.Repeat([]api.Fact{f(0, 0, 0)}, 10000)) {
		t.Error("10000")
	}
	if n, ok := fact.Value([]api.Fact{f(1, 1, 5), f(1, 1, 4)}, 3, "cash", 9, 9); n != 0 || ok {
		t.Error("not right", n)
	}
}
