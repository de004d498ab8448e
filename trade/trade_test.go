package trade_test

import (
	"math/rand"
	"slices"
	"testing"

	"consol/api"
	"consol/trade"
)

func seats(parents ...int) []api.Seat {
	var l []api.Seat
	for _, p := range parents {
		l = append(l, api.Seat{Parent: p, Owner: -1})
	}
	return l
}

func sale(from, to, units, due int) api.Trade {
	return api.Trade{From: from, To: to, Units: units, Made: 1, Due: due, Done: -1}
}

func loan(from, to, units, due, back int) api.Trade {
	return api.Trade{Kind: api.TrLoan, From: from, To: to, Units: units, Made: 1, Due: due, Done: -1, Back: back}
}

func three() []api.Seat { return seats(-1, -1, -1) }

func example() []api.Trade {
	return []api.Trade{sale(1, 2, 5, 3), sale(0, 1, 6, 4), loan(0, 2, 4, 4, 9)}
}

func wrongs() []api.Trade {
	l := make([]api.Trade, 17)
	for i := range l {
		l[i] = sale(0, 1, 5, 3)
	}
	l[0].Kind, l[1].Kind, l[2].From, l[3].To, l[4].To, l[5].Units, l[6].Units, l[7].Made = -1, api.TrKinds, -1, 3, 0, 0, api.MaxUnits+1, -1
	l[8].Due, l[9].Made, l[10].Done, l[11].Done, l[12].Done, l[13].Back, l[14].Kind, l[16].Due = 200001, 4, 2, -2, 200001, 4, api.TrLoan, 0
	l[15] = loan(0, 1, 5, 3, 200001)
	return l
}

func TestP32_1Right(t *testing.T) {
	for i, w := range wrongs() {
		if trade.Right(three(), []api.Trade{w}) {
			t.Error(i)
		}
		if l, e := trade.Add(three(), nil, w); len(l) != 0 || e != api.ErrArg {
			t.Error(i)
		}
		if _, e := trade.Add(three(), []api.Trade{w}, sale(0, 1, 5, 3)); e != api.ErrArg {
			t.Error(i)
		}
	}
	nominee := seats(-1, 0, -1)
	if !trade.Right(three(), example()) || trade.Right(nominee, []api.Trade{sale(0, 2, 1, 3)}) || trade.Right(nominee, []api.Trade{sale(2, 0, 1, 3)}) || trade.Right(seats(0), nil) || trade.Right(three(), []api.Trade{loan(0, 1, 5, 3, 3)}) || trade.Right(three(), slices.Repeat(example()[:1], 10001)) {
		t.Error("right")
	}
	done := sale(0, 1, 5, 3)
	done.Done = 3
	if !trade.Right(three(), []api.Trade{done}) {
		t.Error("done")
	}
	if _, e := trade.Add(three(), nil, done); e != api.ErrArg {
		t.Error("done")
	}
	if l, e := trade.Add(three(), example(), loan(0, 1, 2, 3, 4)); e != api.OK || len(l) != 4 || l[3] != loan(0, 1, 2, 3, 4) {
		t.Error(l, e)
	}
	many := slices.Repeat([]api.Trade{done}, 5000)
	if _, e := trade.Add(three(), many, sale(0, 1, 5, 3)); e != api.ErrFull {
		t.Error("full")
	}
	if _, e := trade.Add(three(), many[1:], sale(0, 1, 5, 3)); e != api.OK {
		t.Error("not full")
	}
}

func TestP32_2Settle(t *testing.T) {
	u, l, e := trade.Settle(three(), []int{10, 0, 0}, example(), 3)
	if e != api.OK || !slices.Equal(u, []int{10, 0, 0}) || !slices.Equal(l, example()) || !slices.Equal(trade.Open(l, 3), []int{0}) {
		t.Error(u, l, e)
	}
	u, l, e = trade.Settle(three(), u, l, 4)
	want := example()
	for i := range want {
		want[i].Done = 4
	}
	want = append(want, api.Trade{From: 2, To: 0, Units: 4, Made: 4, Due: 9, Done: -1})
	if e != api.OK || !slices.Equal(u, []int{0, 1, 9}) || !slices.Equal(l, want) {
		t.Error(u, l, e)
	}
	u, _, _ = trade.Settle(three(), u, l, 9)
	if !slices.Equal(u, []int{4, 1, 5}) {
		t.Error(u)
	}
	// A loan that settles after its day is given back at once.
	u, l, _ = trade.Settle(three(), []int{10, 0, 0}, []api.Trade{loan(0, 2, 4, 4, 9)}, 12)
	if !slices.Equal(u, []int{10, 0, 0}) || len(l) != 2 || l[1].Due != 12 || l[1].Done != 12 {
		t.Error(u, l)
	}
	for i, c := range []struct {
		units []int
		l     []api.Trade
		day   int
	}{{[]int{1, 1}, nil, 1}, {[]int{1, 1, -1}, nil, 1}, {[]int{1, 1, api.MaxUnits}, nil, 1}, {[]int{1, 1, 1}, nil, -1}, {[]int{1, 1, 1}, nil, 200001}, {[]int{1, 1, 1}, wrongs()[:1], 1}} {
		if u, l, e := trade.Settle(three(), c.units, c.l, c.day); len(u) != 0 || len(l) != 0 || e != api.ErrArg {
			t.Error(i, e)
		}
	}
	if _, _, e := trade.Settle(seats(-1, 0), []int{1, 0}, nil, 1); e != api.ErrArg {
		t.Error("a nominee with units")
	}
	if _, _, e := trade.Settle(three(), []int{10, 0, 0}, slices.Repeat([]api.Trade{loan(0, 1, 1, 2, 3)}, 10000), 2); e != api.ErrFull {
		t.Error("full")
	}
}

func TestP32_3Open(t *testing.T) {
	l := append(example(), api.Trade{Due: -5, Done: -1}, api.Trade{Done: 0})
	if got := trade.Open(l, 3); !slices.Equal(got, []int{0, 3}) {
		t.Error(got)
	}
	if got := trade.Open(l, 99); !slices.Equal(got, []int{0, 1, 2, 3}) {
		t.Error(got)
	}
}

func TestP32_4Fresh(t *testing.T) {
	u, l := []int{10, 0, 0}, append(make([]api.Trade, 0, 9), example()...)
	a, b, _ := trade.Settle(three(), u, l, 4)
	a[0], b[0].Units = 99, 99
	c, _ := trade.Add(three(), l, sale(0, 1, 1, 1))
	d, _ := trade.Add(three(), l, sale(0, 2, 1, 1))
	if u[0] != 10 || !slices.Equal(l, example()) || c[3].To != 1 || d[3].To != 2 {
		t.Error("shared")
	}
}

func random(r *rand.Rand) ([]int, []api.Trade) {
	u := []int{r.Intn(10), r.Intn(10), r.Intn(10)}
	var l []api.Trade
	for range r.Intn(6) {
		from := r.Intn(3)
		to := (from + 1 + r.Intn(2)) % 3
		due := 1 + r.Intn(6)
		if r.Intn(2) == 0 {
			l = append(l, sale(from, to, 1+r.Intn(8), due))
		} else {
			l = append(l, loan(from, to, 1+r.Intn(8), due, due+1+r.Intn(4)))
		}
	}
	return u, l
}

func TestP32_5Once(t *testing.T) {
	r := rand.New(rand.NewSource(1))
	for range 500 {
		u, l := random(r)
		for day := range 12 {
			v, m, _ := trade.Settle(three(), u, l, day)
			want := slices.Clone(u)
			for i, x := range m {
				before := -1
				if i < len(l) {
					before = l[i].Done
				}
				if x.Done != -1 && before == -1 {
					want[x.From] -= x.Units
					want[x.To] += x.Units
				}
			}
			if !slices.Equal(v, want) || v[0]+v[1]+v[2] != u[0]+u[1]+u[2] {
				t.Fatal(u, v, m)
			}
			for _, i := range trade.Open(m, day) {
				if v[m[i].From] >= m[i].Units {
					t.Fatal("it could settle")
				}
			}
			u, l = v, m
		}
	}
}

func TestP32_6Again(t *testing.T) {
	r := rand.New(rand.NewSource(2))
	for range 500 {
		u, l := random(r)
		v, m, _ := trade.Settle(three(), u, l, 5)
		w, n, _ := trade.Settle(three(), v, m, 5)
		if !slices.Equal(v, w) || !slices.Equal(m, n) {
			t.Fatal("again")
		}
		loans := 0
		for _, x := range l {
			if x.Kind == api.TrLoan && x.Due <= 5 {
				loans++
			}
		}
		settled := 0
		for _, x := range m[:len(l)] {
			if x.Kind == api.TrLoan && x.Done != -1 {
				settled++
			}
		}
		if len(m)-len(l) != settled || settled > loans {
			t.Fatal("loans")
		}
	}
}

func TestP32_7Back(t *testing.T) {
	u, l, _ := trade.Settle(three(), []int{10, 0, 0}, []api.Trade{loan(0, 1, 7, 2, 5), sale(1, 2, 1, 99)}, 2)
	u, l, _ = trade.Settle(three(), u, l, 5)
	if !slices.Equal(u, []int{10, 0, 0}) || len(l) != 3 || l[1].Done != -1 {
		t.Error(u, l)
	}
}

func TestP32_2Limits(t *testing.T) {
	x := api.Trade{Kind: api.TrLoan, From: 0, To: 1, Units: api.MaxUnits, Made: 199999, Due: 199999, Done: -1, Back: 200000}
	u, l, e := trade.Settle(three(), []int{api.MaxUnits, 0, 0}, []api.Trade{x}, 200000)
	if e != api.OK || !slices.Equal(u, []int{api.MaxUnits, 0, 0}) || len(l) != 2 || l[1].Done != 200000 {
		t.Error(u, l, e)
	}
	if _, _, e := trade.Settle(three(), []int{api.MaxUnits + 1, 0, 0}, nil, 5); e != api.ErrArg {
		t.Error("too many units")
	}
}
