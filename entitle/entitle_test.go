package entitle_test

import (
	"math"
	"math/rand"
	"slices"
	"testing"

	"consol/api"
	"consol/entitle"
	"consol/trade"
)

func seats(parents ...int) []api.Seat {
	var l []api.Seat
	for _, p := range parents {
		l = append(l, api.Seat{Parent: p, Owner: -1})
	}
	return l
}

func three() []api.Seat {
	l := seats(-1, -1, -1)
	l[2].Owner = 4
	return l
}

func share(seat, amount int) api.Share { return api.Share{Seat: seat, Amount: amount} }

func sale(from, to, units, due, done int) api.Trade {
	return api.Trade{From: from, To: to, Units: units, Made: 1, Due: due, Done: done}
}

func loan(from, to, units, due, done, back int) api.Trade {
	return api.Trade{Kind: api.TrLoan, From: from, To: to, Units: units, Made: 1, Due: due, Done: done, Back: back}
}

func TestP33_1Paid(t *testing.T) {
	for i, c := range []struct {
		trades []api.Trade
		want   []api.Share
	}{
		{nil, []api.Share{share(0, 10), share(2, 5)}}, {[]api.Trade{sale(0, 1, 4, 18, -1)}, []api.Share{share(0, 6), share(1, 4), share(2, 5)}}, {[]api.Trade{loan(0, 2, 3, 14, 15, 25)}, []api.Share{share(0, 13), share(2, 2)}}, {[]api.Trade{sale(1, 0, 2, 19, 21)}, []api.Share{share(0, 12), share(1, -2), share(2, 5)}},
		{[]api.Trade{sale(0, 1, 4, 20, -1)}, []api.Share{share(0, 6), share(1, 4), share(2, 5)}}, {[]api.Trade{sale(0, 1, 4, 21, -1)}, []api.Share{share(0, 10), share(2, 5)}}, {[]api.Trade{sale(0, 1, 4, 18, 20)}, []api.Share{share(0, 10), share(2, 5)}},
		{[]api.Trade{loan(0, 2, 3, 14, 20, 21)}, []api.Share{share(0, 13), share(2, 2)}}, {[]api.Trade{loan(0, 2, 3, 14, 15, 20)}, []api.Share{share(0, 10), share(2, 5)}}, {[]api.Trade{loan(0, 2, 3, 14, 21, 25)}, []api.Share{share(0, 10), share(2, 5)}}, {[]api.Trade{loan(0, 2, 3, 14, -1, 25)}, []api.Share{share(0, 10), share(2, 5)}},
		{[]api.Trade{sale(0, 1, 10, 20, -1)}, []api.Share{share(1, 10), share(2, 5)}},
	} {
		if got, e := entitle.Paid(three(), []int{10, 0, 5}, c.trades, 20); !slices.Equal(got, c.want) || e != api.OK {
			t.Error(i, got, e)
		}
	}
	for i, c := range []struct {
		seats  []api.Seat
		units  []int
		trades []api.Trade
		day    int
	}{{three(), []int{1, 1}, nil, 1}, {three(), []int{1, 1, -1}, nil, 1}, {seats(-1, 0), []int{1, 0}, nil, 1}, {seats(0), []int{1}, nil, 1}, {three(), []int{1, 1, api.MaxUnits}, nil, 1}, {three(), []int{1, 1, 1}, []api.Trade{{}}, 1}, {three(), []int{1, 1, 1}, nil, -1}, {three(), []int{1, 1, 1}, nil, 200001}} {
		if got, e := entitle.Paid(c.seats, c.units, c.trades, c.day); len(got) != 0 || e != api.ErrArg {
			t.Error(i, e)
		}
	}
}

func TestP33_2Votes(t *testing.T) {
	for issuer, want := range map[int][]api.Share{4: {share(0, 10)}, 3: {share(0, 10), share(2, 5)}, -1: {share(0, 10), share(2, 5)}} {
		if got, e := entitle.Votes(three(), []int{10, 0, 5}, issuer); !slices.Equal(got, want) || e != api.OK {
			t.Error(issuer, got, e)
		}
	}
	for _, issuer := range []int{-2, 60} {
		if got, e := entitle.Votes(three(), []int{10, 0, 5}, issuer); len(got) != 0 || e != api.ErrArg {
			t.Error(issuer)
		}
	}
	if _, e := entitle.Votes(three(), []int{10, 0}, 4); e != api.ErrArg {
		t.Error("units")
	}
}

func TestP33_3Through(t *testing.T) {
	l := []api.Share{share(2, 5), share(3, -7), share(3, 1), share(9, 100), share(-1, 100), share(0, 1)}
	for seat, want := range []int{0, -6, 5, -6, 0} {
		if got := entitle.Through(seats(-1, 0, 0, 1, -1), l, seat); got != want {
			t.Error(seat, got)
		}
	}
	if entitle.Through(seats(-1), l, 1) != 0 || entitle.Through(seats(-1), l, -1) != 0 || entitle.Through(seats(0), l, 0) != 0 {
		t.Error("no seat")
	}
	if got := entitle.Through(seats(-1), []api.Share{share(0, math.MaxInt), share(0, 1)}, 0); got != math.MinInt {
		t.Error("wraps around", got)
	}
}

func TestP33_4Pure(t *testing.T) {
	u := []int{10, 0, 5}
	entitle.Paid(three(), u, []api.Trade{sale(0, 1, 4, 18, -1)}, 20)
	if !slices.Equal(u, []int{10, 0, 5}) {
		t.Error("changed")
	}
}

func random(r *rand.Rand) ([]api.Seat, []int, []api.Trade) {
	l := seats(-1, 0, 0, -1, 3, -1)
	leaves := []int{1, 2, 4, 5}
	u := make([]int, 6)
	for _, i := range leaves {
		u[i] = r.Intn(10)
	}
	var trades []api.Trade
	for range r.Intn(6) {
		k := r.Intn(4)
		from, to := leaves[k], leaves[(k+1+r.Intn(3))%4]
		due := 15 + r.Intn(10)
		if r.Intn(2) == 0 {
			trades = append(trades, sale(from, to, 1+r.Intn(8), due, -1))
		} else {
			trades = append(trades, loan(from, to, 1+r.Intn(8), due, -1, due+1+r.Intn(6)))
		}
	}
	for day := range 18 {
		u, trades, _ = trade.Settle(l, u, trades, day)
	}
	return l, u, trades
}

func TestP33_5Once(t *testing.T) {
	r := rand.New(rand.NewSource(1))
	for range 500 {
		l, u, trades := random(r)
		paid, e := entitle.Paid(l, u, trades, 20)
		if e != api.OK {
			t.Fatal(e)
		}
		sum, all := 0, 0
		for _, s := range paid {
			sum += s.Amount
		}
		for i, n := range u {
			all += n
			below := 0
			for k, s := range l {
				if s.Parent == i {
					below += entitle.Through(l, paid, k)
				}
			}
			if i == 0 || i == 3 {
				if entitle.Through(l, paid, i) != below {
					t.Fatal("levels")
				}
			}
		}
		if sum != all {
			t.Fatal(sum, all)
		}
	}
}

func TestP33_6Settled(t *testing.T) {
	r := rand.New(rand.NewSource(2))
	for range 500 {
		l, u, trades := random(r)
		before, _ := entitle.Paid(l, u, trades, 20)
		v, m, _ := trade.Settle(l, u, trades, 20)
		after, _ := entitle.Paid(l, v, m, 20)
		if !slices.Equal(before, after) {
			t.Fatal(u, trades, before, after)
		}
	}
}

func TestP33_7Votes(t *testing.T) {
	r := rand.New(rand.NewSource(3))
	for range 300 {
		l, u, _ := random(r)
		for i := range l {
			l[i].Owner = r.Intn(3) - 1
		}
		votes, _ := entitle.Votes(l, u, 1)
		got := make([]int, len(u))
		for _, s := range votes {
			got[s.Seat] += s.Amount
		}
		for i, n := range u {
			if l[i].Owner == 1 {
				n = 0
			}
			if got[i] != n {
				t.Fatal(got, u)
			}
		}
	}
}

func TestP33_1Limits(t *testing.T) {
	u := []int{api.MaxUnits, 0, 0}
	for _, day := range []int{0, 200000} {
		if got, e := entitle.Paid(three(), u, nil, day); !slices.Equal(got, []api.Share{share(0, api.MaxUnits)}) || e != api.OK {
			t.Error(day, got, e)
		}
	}
	if _, e := entitle.Paid(three(), []int{api.MaxUnits + 1, 0, 0}, nil, 1); e != api.ErrArg {
		t.Error("too many")
	}
	early := loan(0, 1, 3, 0, 0, 9)
	early.Made = 0
	if got, _ := entitle.Paid(three(), []int{4, 3, 0}, []api.Trade{early}, 0); !slices.Equal(got, []api.Share{share(0, 7)}) {
		t.Error("a loan of the day 0", got)
	}
	if got := entitle.Through(seats(-1, -1), []api.Share{share(0, 3), share(1, 4)}, 0); got != 3 {
		t.Error(got)
	}
	if got, e := entitle.Votes(three(), u, 59); !slices.Equal(got, []api.Share{share(0, api.MaxUnits)}) || e != api.OK {
		t.Error(got, e)
	}
}
