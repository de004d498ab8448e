package rescue_test

import (
	"math/rand"
	"strings"
	"testing"

	"consol/api"
	"consol/clear"
	"consol/frac"
	"consol/rescue"
)

func f(p, q int) api.Frac {
	x, _ := frac.Of(p, q)
	return x
}

func claim(from, to, rank, amount int) api.Claim {
	return api.Claim{From: from, To: to, Rank: rank, Amount: amount}
}

func least(cash []int, claims []api.Claim, who int) string {
	x, e := rescue.Least(cash, claims, who)
	if e != api.OK {
		return "error"
	}
	return strings.TrimSuffix(frac.Text(x), "/1")
}

func TestP22_1Least(t *testing.T) {
	claims := []api.Claim{claim(0, 1, 0, 30), claim(1, -1, 0, 25)}
	if got := least([]int{10, 0}, claims, 0); got != "20" {
		t.Error(got)
	}
	if got := least([]int{10, 0}, claims, 1); got != "15" {
		t.Error(got)
	}
	if got := least([]int{30, 0}, claims, 1); got != "0" {
		t.Error(got)
	}
	if got := least([]int{3}, []api.Claim{claim(0, 0, 0, 10), claim(0, -1, 0, 4)}, 0); got != "1" {
		t.Error("its own claim", got)
	}
	if got := least([]int{1, 0}, []api.Claim{claim(0, 1, 0, 10), claim(0, -1, 0, 10), claim(1, 0, 0, 10)}, 0); got != "9" {
		t.Error("what comes back", got)
	}
	for i, c := range []struct {
		cash   []int
		claims []api.Claim
		who    int
		want   api.Errno
	}{
		{[]int{1}, nil, 1, api.ErrArg}, {[]int{1}, nil, -1, api.ErrArg}, {[]int{-1}, nil, 0, api.ErrArg}, {[]int{1}, []api.Claim{claim(0, 1, 0, 1)}, 0, api.ErrArg}, {nil, nil, 0, api.ErrArg}, {make([]int, 61), nil, 0, api.ErrArg},
		{[]int{1}, []api.Claim{claim(0, 0, 10, 1)}, 0, api.ErrArg}, {[]int{1}, []api.Claim{claim(0, 0, 0, -1)}, 0, api.ErrArg}, {[]int{1}, make([]api.Claim, 2001), 0, api.ErrArg},
		{[]int{1, api.MaxMoney}, []api.Claim{claim(0, 1, 0, 1)}, 0, api.ErrFull}, {[]int{1, api.MaxMoney - 1}, []api.Claim{claim(0, 1, 0, 1)}, 0, api.OK},
	} {
		if x, e := rescue.Least(c.cash, c.claims, c.who); e != c.want || e != api.OK && x.Q.Sign != 0 {
			t.Error(i, e)
		}
	}
}

func TestP22_2Pure(t *testing.T) {
	cash, claims := []int{10, 0}, []api.Claim{claim(0, 1, 0, 30)}
	rescue.Least(cash, claims, 0)
	if cash[1] != 0 || claims[0] != claim(0, 1, 0, 30) {
		t.Error("changed")
	}
}

func random(r *rand.Rand) ([]int, []api.Claim) {
	n := 1 + r.Intn(4)
	var cash []int
	for range n {
		cash = append(cash, 60*r.Intn(12)*r.Intn(2))
	}
	var l []api.Claim
	for range r.Intn(8) {
		l = append(l, claim(r.Intn(n), r.Intn(n+1)-1, r.Intn(3), 60*r.Intn(15)))
	}
	return cash, l
}

func paysAll(cash []int, claims []api.Claim, who int) bool {
	c, _ := clear.Solve(cash, claims)
	for k, x := range claims {
		if x.From == who && frac.Compare(c.Paid[k], f(x.Amount, 1)) < 0 {
			return false
		}
	}
	return true
}

func TestP22_3Enough(t *testing.T) {
	r := rand.New(rand.NewSource(1))
	for range 300 {
		cash, claims := random(r)
		who := r.Intn(len(cash))
		x, _ := rescue.Least(cash, claims, who)
		for extra := 0; extra < 1000; extra += 20 {
			more := append([]int(nil), cash...)
			more[who] += extra
			if paysAll(more, claims, who) != (frac.Compare(f(extra, 1), x) >= 0) {
				t.Fatal(cash, claims, who, extra, frac.Text(x))
			}
		}
	}
}

func TestP22_4Bounds(t *testing.T) {
	r := rand.New(rand.NewSource(2))
	for range 300 {
		cash, claims := random(r)
		who := r.Intn(len(cash))
		x, _ := rescue.Least(cash, claims, who)
		owes, gets := 0, 0
		for _, c := range claims {
			if c.From == who {
				owes += c.Amount
			}
			if c.To == who {
				gets += c.Amount
			}
		}
		if (x.P.Sign == 0) != paysAll(cash, claims, who) || frac.Compare(x, f(max(0, owes-cash[who]), 1)) > 0 || frac.Compare(x, f(owes-cash[who]-gets, 1)) < 0 {
			t.Fatal(frac.Text(x))
		}
	}
}

func TestP22_5Scale(t *testing.T) {
	r := rand.New(rand.NewSource(3))
	for range 300 {
		cash, claims := random(r)
		who := r.Intn(len(cash))
		x, _ := rescue.Least(cash, claims, who)
		before, _ := clear.Solve(cash, claims)
		richer := append([]int(nil), cash...)
		richer[(who+1)%len(cash)] += 17
		if y, _ := rescue.Least(richer, claims, who); frac.Compare(y, x) > 0 {
			t.Fatal("lacks more")
		}
		after, _ := clear.Solve(richer, claims)
		for i := range cash {
			if frac.Compare(after.Have[i], before.Have[i]) < 0 {
				t.Fatal("less")
			}
		}
		for i := range cash {
			cash[i] *= 7
		}
		for k := range claims {
			claims[k].Amount *= 7
		}
		seven, _ := frac.Mul(x, f(7, 1))
		if y, _ := rescue.Least(cash, claims, who); frac.Compare(y, seven) != 0 {
			t.Fatal("scale")
		}
	}
}

func TestP22_1Limits(t *testing.T) {
	cash := make([]int, 60)
	var l []api.Claim
	for range 2000 {
		l = append(l, claim(59, -1, 9, api.MaxMoney))
	}
	if got := least(cash, l, 59); got != "2000000000000000000" {
		t.Error(got)
	}
	if got := least([]int{7}, []api.Claim{claim(0, -1, 0, 7)}, 0); got != "0" {
		t.Error("exactly enough", got)
	}
	for i, c := range []api.Claim{claim(-1, 0, 0, 0), claim(1, 0, 0, 0), claim(0, -2, 0, 0), claim(0, 1, 0, 0), claim(0, 0, -1, 0), claim(0, 0, 10, 0), claim(0, 0, 0, -1), claim(0, 0, 0, api.MaxMoney+1)} {
		if x, e := rescue.Least([]int{5}, []api.Claim{c}, 0); e != api.ErrArg || x.Q.Sign != 0 {
			t.Error(i, e)
		}
	}
	ring := make([]int, 42)
	l = nil
	for i := range 41 {
		ring[i] = 1
		l = append(l, claim(i, (i+1)%41, 0, 5), claim(i, -1, 0, 5))
	}
	if x, e := rescue.Least(ring, l, 41); e != api.ErrFull || x.Q.Sign != 0 {
		t.Error("full", e)
	}
}
