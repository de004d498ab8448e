package holdout_test

import (
	"math/rand"
	"slices"
	"testing"

	"consol/api"
	"consol/clear"
	"consol/frac"
	"consol/holdout"
	"consol/proof"
)

func claim(from, to, rank, amount int) api.Claim {
	return api.Claim{From: from, To: to, Rank: rank, Amount: amount}
}

func example() holdout.Case {
	return holdout.Case{Cash: []int{10}, Claims: []api.Claim{claim(0, -1, 0, 12), claim(0, -1, 0, 12)}, Issue: []int{0, 1}, New: 500, Rank: 1}
}

func spoils() []func(c *holdout.Case) {
	return []func(c *holdout.Case){
		func(c *holdout.Case) { c.Cash[0] = -1 }, func(c *holdout.Case) { c.Cash = nil }, func(c *holdout.Case) { c.Claims[0].To = 1 }, func(c *holdout.Case) { c.Claims[0].Rank = 10 }, func(c *holdout.Case) { c.Claims[0].Amount = -1 }, func(c *holdout.Case) { c.Claims[0].From = 1 }, func(c *holdout.Case) { c.Cash = make([]int, 61) }, func(c *holdout.Case) { c.Claims = slices.Repeat(c.Claims, 1001) },
		func(c *holdout.Case) { c.Issue = nil }, func(c *holdout.Case) { c.Issue = []int{1, 0} }, func(c *holdout.Case) { c.Issue = []int{0, 0} }, func(c *holdout.Case) { c.Issue = []int{2} }, func(c *holdout.Case) { c.Issue = []int{-1} }, func(c *holdout.Case) { c.New = -1 }, func(c *holdout.Case) { c.New = 10001 }, func(c *holdout.Case) { c.Rank = -1 }, func(c *holdout.Case) { c.Rank = 10 },
		func(c *holdout.Case) { c.Cash, c.Claims[1].From = []int{1, 1}, 1 }, func(c *holdout.Case) { c.Claims[1].Amount, c.New = api.MaxMoney, 1001 },
	}
}

func TestP37_1In(t *testing.T) {
	l, e := holdout.In(example())
	if e != api.OK || len(l) != 2 || frac.Text(l[0]) != "5/1" || frac.Text(l[1]) != "5/1" || !holdout.Right(example()) {
		t.Error(l, e)
	}
	for i, spoil := range spoils() {
		c := example()
		spoil(&c)
		l, e := holdout.In(c)
		_, f := holdout.Out(c, 0)
		if holdout.Right(c) || len(l) != 0 || e != api.ErrArg || f != api.ErrArg {
			t.Error(i, e)
		}
	}
	c := example()
	c.Claims[1].Amount, c.New = api.MaxMoney, 1000
	if !holdout.Right(c) {
		t.Error("limits")
	}
	c = example()
	c.Claims[0].Amount, c.New, c.Cash = 1999, 1500, []int{5000}
	if l, _ := holdout.In(c); frac.Text(l[0]) != "2998/1" {
		t.Error("floor", frac.Text(l[0]))
	}
	c.Cash = nil
	for i := range 41 {
		c.Cash = append(c.Cash, 1)
		c.Claims = append(c.Claims, claim(i, (i+1)%41, 0, 5000), claim(i, -1, 0, 5000))
	}
	if _, e := holdout.In(c); e != api.ErrFull {
		t.Error("full", e)
	}
	if _, e := holdout.Out(c, 0); e != api.ErrFull {
		t.Error("full", e)
	}
	if _, _, e := holdout.Better(c, 0); e != api.ErrFull {
		t.Error("full", e)
	}
	if n, e := holdout.Why(c, 0); n != holdout.Nothing || e != api.ErrFull {
		t.Error("full", e)
	}
}

func TestP37_2Out(t *testing.T) {
	if f, e := holdout.Out(example(), 0); frac.Text(f) != "10/1" || e != api.OK {
		t.Error(frac.Text(f), e)
	}
	for _, k := range []int{-1, 2} {
		if f, e := holdout.Out(example(), k); f.Q.Sign != 0 || e != api.ErrNone {
			t.Error(k, e)
		}
		if _, _, e := holdout.Better(example(), k); e != api.ErrNone {
			t.Error(k, e)
		}
		if n, e := holdout.Why(example(), k); n != holdout.Nothing || e != api.ErrNone {
			t.Error(k, e)
		}
	}
}

func TestP37_3Better(t *testing.T) {
	if yes, d, e := holdout.Better(example(), 1); !yes || frac.Text(d) != "5/1" || e != api.OK {
		t.Error(yes, frac.Text(d), e)
	}
	c := example()
	c.Rank, c.New, c.Claims[0].Rank, c.Claims[1].Rank = 0, 1000, 1, 1
	if yes, d, e := holdout.Better(c, 1); yes || frac.Text(d) != "-5/1" || e != api.OK {
		t.Error(yes, frac.Text(d), e)
	}
	if n, e := holdout.Why(c, 1); n != holdout.Nothing || e != api.OK {
		t.Error(n, e)
	}
}

func TestP37_4Why(t *testing.T) {
	if n, e := holdout.Why(example(), 0); n != holdout.Amount || e != api.OK {
		t.Error(n, e)
	}
	c := example()
	c.New = 1000
	if n, e := holdout.Why(c, 0); n != holdout.Rank || e != api.OK {
		t.Error(n, e)
	}
}

func TestP37_5Pure(t *testing.T) {
	c := example()
	holdout.Why(c, 0)
	if !slices.Equal(c.Claims, example().Claims) {
		t.Error("changed")
	}
}

func random(r *rand.Rand) holdout.Case {
	n := 1 + r.Intn(3)
	c := holdout.Case{New: r.Intn(1500), Rank: r.Intn(3)}
	for range n {
		c.Cash = append(c.Cash, r.Intn(20))
	}
	for range 1 + r.Intn(6) {
		c.Claims = append(c.Claims, claim(r.Intn(n), r.Intn(n+1)-1, r.Intn(3), r.Intn(20)))
	}
	for i, x := range c.Claims {
		if x.From == c.Claims[0].From && (i == 0 || r.Intn(2) == 0) {
			c.Issue = append(c.Issue, i)
		}
	}
	return c
}

func TestP37_6Clearings(t *testing.T) {
	r := rand.New(rand.NewSource(1))
	for range 300 {
		c := random(r)
		k := r.Intn(len(c.Issue))
		in, _ := holdout.In(c)
		out, _ := holdout.Out(c, k)
		for _, stay := range []int{-1, k} {
			claims := slices.Clone(c.Claims)
			for m, i := range c.Issue {
				if m != stay {
					claims[i].Amount = claims[i].Amount * c.New / 1000
					claims[i].Rank = c.Rank
				}
			}
			x, _ := clear.Solve(c.Cash, claims)
			if proof.Check(c.Cash, claims, x) != api.OK {
				t.Fatal("proof")
			}
			want := in[k]
			if stay == k {
				want = out
			}
			if frac.Compare(x.Paid[c.Issue[k]], want) != 0 {
				t.Fatal(c)
			}
		}
	}
}

func TestP37_7Nobody(t *testing.T) {
	r := rand.New(rand.NewSource(2))
	for range 300 {
		c := random(r)
		c.New, c.Rank = 1000+r.Intn(500), 0
		for i := range c.Claims {
			if c.Claims[i].From == c.Claims[0].From {
				c.Claims[i].To = -1
			}
		}
		for k := range c.Issue {
			if yes, _, _ := holdout.Better(c, k); yes {
				t.Fatal(c)
			}
		}
	}
}

func TestP37_8Full(t *testing.T) {
	c := example()
	c.Cash = []int{100}
	for k := range 2 {
		if yes, d, _ := holdout.Better(c, k); !yes || frac.Text(d) != "6/1" {
			t.Error(frac.Text(d))
		}
	}
}

func TestP37_1Limits(t *testing.T) {
	c := holdout.Case{Cash: make([]int, 60), Claims: slices.Repeat([]api.Claim{claim(59, -1, 9, 7)}, 2000), Issue: []int{1999}, New: 10000, Rank: 9}
	if l, e := holdout.In(c); e != api.OK || len(l) != 1 {
		t.Error("limits", e)
	}
	c.New, c.Rank = 0, 0
	if l, e := holdout.In(c); e != api.OK || frac.Text(l[0]) != "0/1" {
		t.Error("nothing is given", e)
	}
	d := example()
	d.Claims[0].To, d.Claims[1].To = 0, 0
	if !holdout.Right(d) {
		t.Error("claims of the issuer itself")
	}
}
