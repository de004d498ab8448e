package rank_test

import (
	"math/rand"
	"strings"
	"testing"

	"consol/api"
	"consol/big"
	"consol/frac"
	"consol/rank"
)

func f(p, q int) api.Frac {
	x, _ := frac.Of(p, q)
	return x
}

func text(l []api.Frac) string {
	var s []string
	for _, x := range l {
		s = append(s, strings.TrimSuffix(frac.Text(x), "/1"))
	}
	return strings.Join(s, " ")
}

func claim(level, amount int) api.Claim { return api.Claim{To: -1, Rank: level, Amount: amount} }

func example() []api.Claim { return []api.Claim{claim(0, 30), claim(0, 60), claim(1, 10)} }

func wrongs() [][]api.Claim {
	return [][]api.Claim{{{From: -1}}, {{From: 60}}, {{To: -2}}, {{To: 60}}, {{Rank: -1}}, {{Rank: 10}}, {{Amount: -1}}, {{Amount: api.MaxMoney + 1}}, {{From: 1}, {From: 2}}, make([]api.Claim, 2001)}
}

func TestP19_1Split(t *testing.T) {
	for _, c := range []struct {
		amount api.Frac
		want   string
	}{{f(45, 1), "15 30 0"}, {f(95, 1), "30 60 5"}, {f(200, 1), "30 60 10"}, {f(1, 2), "1/6 1/3 0"}, {f(0, 1), "0 0 0"}, {f(90, 1), "30 60 0"}} {
		if got, e := rank.Split(c.amount, example()); text(got) != c.want || e != api.OK {
			t.Error(text(got), e)
		}
	}
	if got, e := rank.Split(f(5, 1), nil); len(got) != 0 || e != api.OK {
		t.Error("no claims")
	}
	if got, e := rank.Split(f(5, 1), []api.Claim{claim(9, 4), claim(2, 0), claim(0, 3)}); text(got) != "2 0 3" || e != api.OK {
		t.Error(text(got))
	}
	for i, w := range wrongs() {
		if got, e := rank.Split(f(5, 1), w); len(got) != 0 || e != api.ErrArg {
			t.Error(i)
		}
	}
	for _, a := range []api.Frac{{}, f(-1, 2)} {
		if got, e := rank.Split(a, example()); len(got) != 0 || e != api.ErrArg {
			t.Error("amount")
		}
	}
	n, _ := big.Read("1" + strings.Repeat("0", 355))
	huge, _ := frac.New(big.Of(1), n)
	if got, e := rank.Split(huge, []api.Claim{claim(0, api.MaxMoney), claim(0, api.MaxMoney-1)}); len(got) != 0 || e != api.ErrFull {
		t.Error("full", e)
	}
}

func TestP19_2Short(t *testing.T) {
	for _, c := range []struct {
		amount api.Frac
		want   int
		ok     bool
	}{{f(45, 1), 0, true}, {f(95, 1), 1, true}, {f(200, 1), 0, false}} {
		paid, _ := rank.Split(c.amount, example())
		if got, ok := rank.Short(example(), paid); got != c.want || ok != c.ok {
			t.Error(got, ok)
		}
	}
	if r, ok := rank.Short([]api.Claim{claim(5, 10), claim(3, 10)}, []api.Frac{f(0, 1), f(-1, 1)}); r != 3 || !ok {
		t.Error(r)
	}
	if _, ok := rank.Short(example(), []api.Frac{f(0, 1)}); ok {
		t.Error("too few")
	}
	if _, ok := rank.Short(example(), []api.Frac{f(0, 1), f(0, 1), {}}); ok {
		t.Error("not right")
	}
	for i, w := range wrongs() {
		paid := make([]api.Frac, len(w))
		for k := range paid {
			paid[k] = f(-5, 1)
		}
		if _, ok := rank.Short(w, paid); ok {
			t.Error(i)
		}
	}
}

func TestP19_3Fresh(t *testing.T) {
	a := f(7, 1)
	got, _ := rank.Split(a, []api.Claim{claim(0, 50)})
	got[0].P.Digits[0] = 9
	if text([]api.Frac{a}) != "7" {
		t.Error("shared")
	}
}

func random(r *rand.Rand) []api.Claim {
	var l []api.Claim
	for range 1 + r.Intn(6) {
		l = append(l, claim(r.Intn(3), r.Intn(20)))
	}
	return l
}

func sum(l []api.Frac) api.Frac {
	s := f(0, 1)
	for _, x := range l {
		s, _ = frac.Add(s, x)
	}
	return s
}

func TestP19_4Sum(t *testing.T) {
	r := rand.New(rand.NewSource(1))
	for range 500 {
		l := random(r)
		amount := f(r.Intn(200), 1+r.Intn(3))
		paid, _ := rank.Split(amount, l)
		all := 0
		for _, c := range l {
			all += c.Amount
		}
		want := amount
		if frac.Compare(want, f(all, 1)) > 0 {
			want = f(all, 1)
		}
		if frac.Compare(sum(paid), want) != 0 {
			t.Fatal(text(paid))
		}
		for i, c := range l {
			for k, d := range l {
				if frac.Compare(paid[i], f(c.Amount, 1)) >= 0 {
					continue
				}
				x, _ := frac.Mul(paid[i], f(d.Amount, 1))
				y, _ := frac.Mul(paid[k], f(c.Amount, 1))
				if c.Rank == d.Rank && frac.Compare(x, y) != 0 || d.Rank > c.Rank && paid[k].P.Sign != 0 {
					t.Fatal("not in proportion")
				}
			}
		}
	}
}

func TestP19_5More(t *testing.T) {
	r := rand.New(rand.NewSource(2))
	for range 300 {
		l := random(r)
		n := r.Intn(60)
		a, _ := rank.Split(f(n, 1), l)
		b, _ := rank.Split(f(n+1, 1), l)
		for i := range l {
			if frac.Compare(b[i], a[i]) < 0 {
				t.Fatal("less")
			}
		}
		d, _ := frac.Sub(sum(b), sum(a))
		if _, short := rank.Short(l, b); short && frac.Compare(d, f(1, 1)) != 0 {
			t.Fatal("not so much more")
		}
	}
}

func TestP19_6Ranks(t *testing.T) {
	a, _ := rank.Split(f(50, 1), example())
	b, _ := rank.Split(f(50, 1), append(example(), claim(2, 500)))
	if text(a) != text(b[:3]) {
		t.Error("a greater rank matters")
	}
	c, _ := rank.Split(f(50, 1), []api.Claim{claim(0, 30), claim(0, 25), claim(0, 35), claim(1, 10)})
	if frac.Compare(sum(c[1:3]), a[1]) != 0 || frac.Compare(c[0], a[0]) != 0 {
		t.Error("a divided claim")
	}
}

func TestP19_1Limits(t *testing.T) {
	var l []api.Claim
	for range 2000 {
		l = append(l, api.Claim{From: 59, To: 59, Rank: 9, Amount: api.MaxMoney})
	}
	paid, e := rank.Split(f(2000, 1), l)
	if e != api.OK || len(paid) != 2000 || text(paid[:1]) != "1" {
		t.Error("2000 claims", e)
	}
	if r, ok := rank.Short(l, paid); r != 9 || !ok {
		t.Error("the last rank", r, ok)
	}
	full, _ := rank.Split(f(5, 1), []api.Claim{claim(3, 5)})
	if r, ok := rank.Short([]api.Claim{claim(3, 5)}, full); r != 0 || ok {
		t.Error("paid in full", r)
	}
	if r, ok := rank.Short(l, paid[1:]); r != 0 || ok {
		t.Error("too few", r)
	}
}
