package clear_test

import (
	"math/rand"
	"slices"
	"strings"
	"testing"

	"consol/api"
	"consol/clear"
	"consol/frac"
)

func f(p, q int) api.Frac {
	x, _ := frac.Of(p, q)
	return x
}

func text(l []api.Frac) string {
	var s []string
	for _, x := range l {
		s = append(s, strings.TrimSuffix(frac.Text(x), "/1"))
	}
	return strings.Join(s, " ")
}

func claim(from, to, rank, amount int) api.Claim {
	return api.Claim{From: from, To: to, Rank: rank, Amount: amount}
}

// same reports whether lists of lists are equal; nil and empty ones are.
func same(a, b [][]int) bool { return slices.EqualFunc(a, b, slices.Equal[[]int]) }

func TestP20_1Solve(t *testing.T) {
	for i, c := range []struct {
		cash       []int
		claims     []api.Claim
		have, paid string
		falls      [][]int
	}{
		{[]int{5, 0}, []api.Claim{claim(0, 1, 0, 10), claim(1, -1, 0, 4)}, "5 5", "5 4", [][]int{{0}}},
		{[]int{0, 0}, []api.Claim{claim(0, 1, 0, 10), claim(1, 0, 0, 10)}, "10 10", "10 10", nil},
		{[]int{0, 0}, []api.Claim{claim(0, 1, 1, 10), claim(1, 0, 1, 10), claim(0, -1, 0, 5)}, "0 0", "0 0 0", [][]int{{0}, {1}, {0}}},
		{[]int{9}, []api.Claim{claim(0, -1, 0, 6), claim(0, -1, 1, 2), claim(0, -1, 1, 4)}, "9", "6 1 2", [][]int{{0}}},
		{[]int{3, 0}, []api.Claim{claim(0, 1, 0, 10), claim(0, -1, 0, 10), claim(1, 0, 0, 10)}, "6 3", "3 3 3", [][]int{{0}, {1}}},
		{[]int{4}, []api.Claim{claim(0, 0, 0, 10), claim(0, -1, 0, 10)}, "8", "4 4", [][]int{{0}}},
		{nil, nil, "", "", nil},
	} {
		got, e := clear.Solve(c.cash, c.claims)
		if e != api.OK || text(got.Have) != c.have || text(got.Paid) != c.paid || !same(got.Falls, c.falls) {
			t.Error(i, text(got.Have), text(got.Paid), got.Falls, e)
		}
	}
}

func wrongs() (cash [][]int, claims [][]api.Claim) {
	for _, c := range []api.Claim{claim(-1, 0, 0, 1), claim(1, 0, 0, 1), claim(0, 1, 0, 1), claim(0, -2, 0, 1), claim(0, 0, -1, 1), claim(0, 0, 10, 1), claim(0, 0, 0, -1), claim(0, 0, 0, api.MaxMoney+1)} {
		cash, claims = append(cash, []int{1}), append(claims, []api.Claim{c})
	}
	cash = append(cash, []int{-1}, []int{api.MaxMoney + 1}, make([]int, 61), []int{1})
	claims = append(claims, nil, nil, nil, make([]api.Claim, 2001))
	return cash, claims
}

func TestP20_1Errors(t *testing.T) {
	cash, claims := wrongs()
	for i := range cash {
		c, e := clear.Solve(cash[i], claims[i])
		if e != api.ErrArg || len(c.Have) != 0 || len(c.Paid) != 0 || len(c.Falls) != 0 {
			t.Error(i, e)
		}
	}
	ring := func(n int) ([]int, []api.Claim) {
		var cash []int
		var l []api.Claim
		for i := range n {
			cash = append(cash, 1)
			l = append(l, claim(i, (i+1)%n, 0, 5), claim(i, -1, 0, 5))
		}
		return cash, l
	}
	if c, e := clear.Solve(ring(40)); e != api.OK || text(c.Have[:1]) != "2" {
		t.Error("40 that pay", e)
	}
	if c, e := clear.Solve(ring(41)); e != api.ErrFull || len(c.Have) != 0 {
		t.Error("41 that pay", e)
	}
	// Those that have fallen and have nothing to pay do not count.
	cash60 := make([]int, 60)
	var l []api.Claim
	for i := range 60 {
		l = append(l, claim(i, -1, 0, 5))
	}
	if _, e := clear.Solve(cash60, l); e != api.OK {
		t.Error("60 that pay nothing", e)
	}
}

func TestP20_2Fits(t *testing.T) {
	claims := []api.Claim{claim(0, 1, 0, 10), claim(1, 0, 0, 10)}
	for i, c := range []struct {
		have []api.Frac
		want bool
	}{{[]api.Frac{f(10, 1), f(10, 1)}, true}, {[]api.Frac{f(0, 1), f(0, 1)}, true}, {[]api.Frac{f(7, 2), f(7, 2)}, true}, {[]api.Frac{f(10, 1), f(9, 1)}, false}, {[]api.Frac{f(11, 1), f(11, 1)}, false}, {[]api.Frac{f(1, 1)}, false}, {[]api.Frac{f(-1, 1), f(-1, 1)}, false}, {make([]api.Frac, 2), false}} {
		if clear.Fits([]int{0, 0}, claims, c.have) != c.want {
			t.Error(i)
		}
	}
	cash, wrong := wrongs()
	for i := range cash {
		have := make([]api.Frac, len(cash[i]))
		for k := range have {
			have[k] = f(cash[i][k], 1)
		}
		if clear.Fits(cash[i], wrong[i], have) {
			t.Error("no day", i)
		}
	}
}

func TestP20_3Pure(t *testing.T) {
	cash, claims := []int{5, 0}, []api.Claim{claim(0, 1, 0, 10), claim(1, -1, 0, 4)}
	a, _ := clear.Solve(cash, claims)
	a.Have[0].P.Digits[0], a.Falls[0][0] = 9, 9
	if text(a.Paid) != "5 4" || text(a.Have[1:]) != "5" || cash[0] != 5 {
		t.Error("shared")
	}
	b, _ := clear.Solve(cash, claims)
	if text(b.Have) != "5 5" || b.Falls[0][0] != 0 {
		t.Error("state")
	}
}

func random(r *rand.Rand) ([]int, []api.Claim) {
	n := 1 + r.Intn(4)
	var cash []int
	for range n {
		cash = append(cash, r.Intn(12)*r.Intn(2))
	}
	var l []api.Claim
	for range r.Intn(8) {
		l = append(l, claim(r.Intn(n), r.Intn(n+1)-1, r.Intn(3), r.Intn(15)))
	}
	return cash, l
}

func float(x api.Frac) float64 {
	n := 0.0
	for i := len(x.P.Digits) - 1; i >= 0; i-- {
		n = n*1048576 + float64(x.P.Digits[i])
	}
	d := 0.0
	for i := len(x.Q.Digits) - 1; i >= 0; i-- {
		d = d*1048576 + float64(x.Q.Digits[i])
	}
	return n / d
}

// approach finds the greatest clearing from above, in many steps.
func approach(cash []int, claims []api.Claim) []float64 {
	have := make([]float64, len(cash))
	for i := range have {
		have[i] = 1e6
	}
	for range 3000 {
		next := make([]float64, len(cash))
		for i, c := range cash {
			next[i] = float64(c)
		}
		for i := range cash {
			rest := have[i]
			for r := range 10 {
				all := 0.0
				for _, c := range claims {
					if c.From == i && c.Rank == r {
						all += float64(c.Amount)
					}
				}
				pay := min(rest, all)
				rest -= pay
				for _, c := range claims {
					if c.From == i && c.Rank == r && c.To >= 0 && all > 0 {
						next[c.To] += float64(c.Amount) * pay / all
					}
				}
			}
		}
		have = next
	}
	return have
}

func TestP20_4Greatest(t *testing.T) {
	r := rand.New(rand.NewSource(1))
	for range 400 {
		cash, claims := random(r)
		c, e := clear.Solve(cash, claims)
		if e != api.OK || !clear.Fits(cash, claims, c.Have) {
			t.Fatal(e, cash, claims, text(c.Have))
		}
		for i, x := range approach(cash, claims) {
			if d := float(c.Have[i]) - x; d > 0.05 || d < -0.05 {
				t.Fatal(cash, claims, text(c.Have), x)
			}
		}
	}
}

func TestP20_5Money(t *testing.T) {
	r := rand.New(rand.NewSource(2))
	for range 400 {
		cash, claims := random(r)
		c, _ := clear.Solve(cash, claims)
		total, owed := f(0, 1), make([]int, len(cash))
		for i, n := range cash {
			total, _ = frac.Sub(total, f(n, 1))
			total, _ = frac.Add(total, c.Have[i])
		}
		for k, x := range claims {
			owed[x.From] += x.Amount
			if x.To >= 0 {
				total, _ = frac.Sub(total, c.Paid[k])
			}
		}
		if total.P.Sign != 0 {
			t.Fatal("money")
		}
		for i := range cash {
			pays := f(0, 1)
			for k, x := range claims {
				if x.From == i {
					pays, _ = frac.Add(pays, c.Paid[k])
				}
			}
			if d := frac.Compare(pays, c.Have[i]); d > 0 || d < 0 && frac.Compare(pays, f(owed[i], 1)) != 0 {
				t.Fatal("keeps something")
			}
		}
	}
}

func TestP20_6Falls(t *testing.T) {
	r := rand.New(rand.NewSource(3))
	again := 0
	for range 1000 {
		cash, claims := random(r)
		c, _ := clear.Solve(cash, claims)
		fell := map[int]bool{}
		for _, round := range c.Falls {
			before := -1
			for _, i := range round {
				if i <= before {
					t.Fatal("order")
				}
				if fell[i] {
					again++
				}
				fell[i], before = true, i
			}
		}
		for i := range cash {
			short := false
			for k, x := range claims {
				short = short || x.From == i && frac.Compare(c.Paid[k], f(x.Amount, 1)) < 0
			}
			if short != fell[i] {
				t.Fatal(cash, claims, c.Falls)
			}
		}
	}
	if again == 0 {
		t.Error("nobody fell again")
	}
}

func TestP20_7More(t *testing.T) {
	r := rand.New(rand.NewSource(4))
	for range 300 {
		cash, claims := random(r)
		a, _ := clear.Solve(cash, claims)
		cash[r.Intn(len(cash))] += 3
		var less []api.Claim
		for _, c := range claims {
			if c.To != -1 || r.Intn(2) == 0 {
				less = append(less, c)
			}
		}
		b, _ := clear.Solve(cash, claims)
		c, _ := clear.Solve(cash, less)
		for i := range cash {
			if frac.Compare(b.Have[i], a.Have[i]) < 0 || frac.Compare(c.Have[i], b.Have[i]) < 0 {
				t.Fatal("less")
			}
		}
	}
}

func TestP20_1Limits(t *testing.T) {
	cash := make([]int, 60)
	for i := range cash {
		cash[i] = api.MaxMoney
	}
	var l []api.Claim
	for range 2000 {
		l = append(l, claim(59, 0, 9, api.MaxMoney))
	}
	c, e := clear.Solve(cash, l)
	if e != api.OK || text(c.Have[:1]) != "2000000000000000" || text(c.Paid[1999:]) != "500000000000" || !same(c.Falls, [][]int{{59}}) || !clear.Fits(cash, l, c.Have) {
		t.Error("60 issuers and 2000 claims", e)
	}
	if clear.Fits([]int{0}, nil, []api.Frac{f(-1, 1)}) || clear.Fits([]int{0}, nil, []api.Frac{{}}) || !clear.Fits(nil, nil, nil) {
		t.Error("fits")
	}
}
