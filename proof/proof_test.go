package proof_test

import (
	"math/rand"
	"slices"
	"strings"
	"testing"

	"consol/api"
	"consol/big"
	"consol/clear"
	"consol/frac"
	"consol/proof"
)

func f(p, q int) api.Frac {
	x, _ := frac.Of(p, q)
	return x
}

func fs(l ...int) []api.Frac {
	var out []api.Frac
	for _, n := range l {
		out = append(out, f(n, 1))
	}
	return out
}

func claim(from, to, rank, amount int) api.Claim {
	return api.Claim{From: from, To: to, Rank: rank, Amount: amount}
}

func both() []api.Claim { return []api.Claim{claim(1, 0, 0, 5), claim(0, 1, 0, 5)} }

func TestP21_1Short(t *testing.T) {
	cash := []int{0, 0, 0}
	claims := []api.Claim{claim(2, 0, 3, 5), claim(0, 1, 0, 5), claim(0, 1, 0, 0)}
	got := proof.Short(cash, claims, api.Clearing{Have: fs(0, 0, 0), Paid: fs(4, 3, 0)})
	if !slices.Equal(got, []int{0, 2}) {
		t.Error(got)
	}
	if got := proof.Short(cash, claims, api.Clearing{Have: fs(0, 0), Paid: fs(4, 3, 0)}); len(got) != 0 {
		t.Error("form")
	}
	if got := proof.Short(cash, claims, api.Clearing{Have: fs(0, 0, 0), Paid: fs(-4, 3, 0)}); len(got) != 0 {
		t.Error("negative")
	}
	if got := proof.Short([]int{-1, 0, 0}, claims, api.Clearing{Have: fs(0, 0, 0), Paid: fs(4, 3, 0)}); len(got) != 0 {
		t.Error("no day")
	}
}

func TestP21_2Check(t *testing.T) {
	cash := []int{0, 0}
	for i, c := range []struct {
		c    api.Clearing
		want api.Errno
	}{
		{api.Clearing{Have: fs(5, 5), Paid: fs(5, 5)}, api.OK},
		{api.Clearing{Have: fs(2, 2), Paid: fs(2, 2), Falls: [][]int{{0, 1}}}, api.ErrCheck},
		{api.Clearing{Have: fs(5, 4), Paid: fs(5, 5)}, api.ErrCheck},
		{api.Clearing{Have: fs(5, 5), Paid: fs(5, 4)}, api.ErrCheck},
		{api.Clearing{Have: fs(5, 5), Paid: fs(5, 5), Falls: [][]int{{0}}}, api.ErrCheck},
		{api.Clearing{Have: fs(5, 5), Paid: fs(5, 5), Falls: [][]int{{}}}, api.ErrCheck},
		{api.Clearing{Have: fs(5), Paid: fs(5, 5)}, api.ErrArg}, {api.Clearing{Have: fs(5, 5), Paid: fs(5)}, api.ErrArg},
		{api.Clearing{Have: fs(5, -5), Paid: fs(5, 5)}, api.ErrArg}, {api.Clearing{Have: fs(5, 5), Paid: make([]api.Frac, 2)}, api.ErrArg},
	} {
		if e := proof.Check(cash, both(), c.c); e != c.want {
			t.Error(i, e)
		}
	}
	claims := []api.Claim{claim(0, -1, 0, 5), claim(1, -1, 1, 5), claim(2, 1, 0, 0)}
	for i, c := range []struct {
		falls [][]int
		want  api.Errno
	}{{[][]int{{0, 1}}, api.OK}, {[][]int{{1}, {0}}, api.OK}, {[][]int{{0}, {0, 1}}, api.OK}, {[][]int{{1, 0}}, api.ErrCheck}, {[][]int{{0, 0, 1}}, api.ErrCheck}, {[][]int{{0, 1}, {}}, api.ErrCheck}, {[][]int{{0}}, api.ErrCheck}, {[][]int{{0, 1, 2}}, api.ErrCheck}, {[][]int{{0, 1, 77}}, api.ErrCheck}, {[][]int{{-1, 0, 1}}, api.ErrCheck}} {
		if e := proof.Check([]int{1, 2, 3}, claims, api.Clearing{Have: fs(1, 2, 3), Paid: fs(1, 2, 0), Falls: c.falls}); e != c.want {
			t.Error("falls", i, e)
		}
	}
	for i, x := range []api.Claim{claim(-1, 0, 0, 0), claim(3, 0, 0, 0), claim(0, 3, 0, 0), claim(0, -2, 0, 0), claim(0, 0, -1, 0), claim(0, 0, 10, 0), claim(0, 0, 0, -1), claim(0, 0, 0, api.MaxMoney+1)} {
		if e := proof.Check([]int{0, 0, 0}, []api.Claim{x}, api.Clearing{Have: fs(0, 0, 0), Paid: fs(0)}); e != api.ErrArg {
			t.Error("claim", i, e)
		}
	}
	if proof.Check(make([]int, 61), nil, api.Clearing{Have: slices.Repeat(fs(0), 61)}) != api.ErrArg || proof.Check(nil, nil, api.Clearing{}) != api.OK || proof.Check([]int{0}, make([]api.Claim, 2001), api.Clearing{Have: fs(0), Paid: slices.Repeat(fs(0), 2001)}) != api.ErrArg {
		t.Error("day")
	}
	n, _ := big.Read("1" + strings.Repeat("0", 300))
	m, _ := big.Read("1" + strings.Repeat("0", 299) + "1")
	a, _ := frac.New(big.Of(1), n)
	b, _ := frac.New(big.Of(1), m)
	if e := proof.Check([]int{0, 0}, []api.Claim{claim(1, 0, 0, 1), claim(1, 0, 0, 1)}, api.Clearing{Have: fs(0, 0), Paid: []api.Frac{a, b}}); e != api.ErrFull {
		t.Error("full", e)
	}
}

func TestP21_3Pure(t *testing.T) {
	c := api.Clearing{Have: fs(5, 5), Paid: fs(5, 5), Falls: [][]int{{1, 0}}}
	proof.Check([]int{0, 0}, both(), c)
	if !slices.Equal(c.Falls[0], []int{1, 0}) {
		t.Error("changed")
	}
}

func random(r *rand.Rand) ([]int, []api.Claim) {
	n := 1 + r.Intn(4)
	var cash []int
	for range n {
		cash = append(cash, r.Intn(12)*r.Intn(2))
	}
	var l []api.Claim
	for range r.Intn(8) {
		l = append(l, claim(r.Intn(n), r.Intn(n+1)-1, r.Intn(3), r.Intn(15)))
	}
	return cash, l
}

func TestP21_4Greatest(t *testing.T) {
	r := rand.New(rand.NewSource(1))
	for range 500 {
		cash, claims := random(r)
		c, _ := clear.Solve(cash, claims)
		if e := proof.Check(cash, claims, c); e != api.OK {
			t.Fatal(cash, claims, c.Falls, e)
		}
	}
	// A lesser list that fits is refused.
	for n := range 5 {
		c := api.Clearing{Have: fs(n, n), Paid: fs(n, n), Falls: [][]int{{0, 1}}}
		if !clear.Fits([]int{0, 0}, both(), c.Have) || proof.Check([]int{0, 0}, both(), c) != api.ErrCheck {
			t.Error(n)
		}
	}
	// A circle at the ranks at which its issuers end, though greater ranks lead outside.
	claims := append(both(), claim(0, -1, 1, 7))
	if proof.Check([]int{0, 0}, claims, api.Clearing{Have: fs(2, 2), Paid: fs(2, 2, 0), Falls: [][]int{{0, 1}}}) != api.ErrCheck {
		t.Error("ranks")
	}
	if proof.Check([]int{0, 0}, claims, api.Clearing{Have: fs(5, 5), Paid: fs(5, 5, 0), Falls: [][]int{{0}}}) != api.OK {
		t.Error("the greatest one")
	}
}

func TestP21_5Full(t *testing.T) {
	cash, claims := []int{9, 4}, []api.Claim{claim(0, 1, 0, 5), claim(1, -1, 2, 8)}
	c, _ := clear.Solve(cash, claims)
	if len(proof.Short(cash, claims, c)) != 0 || proof.Check(cash, claims, c) != api.OK {
		t.Error("short")
	}
	sum := f(0, 1)
	for _, x := range c.Have {
		sum, _ = frac.Add(sum, x)
	}
	if sum, _ = frac.Sub(sum, c.Paid[0]); frac.Compare(sum, f(13, 1)) != 0 {
		t.Error("money")
	}
}

func TestP21_6Changed(t *testing.T) {
	r := rand.New(rand.NewSource(2))
	for range 300 {
		cash, claims := random(r)
		c, _ := clear.Solve(cash, claims)
		l := c.Have
		if len(claims) > 0 && r.Intn(2) == 0 {
			l = c.Paid
		}
		i := r.Intn(len(l))
		l[i], _ = frac.Add(l[i], f(1, 1+r.Intn(4)))
		if proof.Check(cash, claims, c) == api.OK {
			t.Fatal(cash, claims)
		}
	}
}

func TestP21_2Limits(t *testing.T) {
	cash := slices.Repeat([]int{api.MaxMoney}, 60)
	have := slices.Repeat(fs(api.MaxMoney), 60)
	claims := slices.Repeat([]api.Claim{claim(59, -1, 9, api.MaxMoney)}, 2000)
	c := api.Clearing{Have: have, Paid: slices.Repeat(fs(api.MaxMoney/2000), 2000), Falls: [][]int{{59}}}
	if e := proof.Check(cash, claims, c); e != api.OK {
		t.Error("60 issuers and 2000 claims", e)
	}
	if got := proof.Short(cash, claims, c); !slices.Equal(got, []int{59}) {
		t.Error(got)
	}
	// A claim of 0 at the rank at which an issuer ends leads nowhere.
	both := []api.Claim{claim(0, 1, 0, 5), claim(1, 0, 0, 5), claim(0, -1, 0, 0)}
	if e := proof.Check([]int{0, 0}, both, api.Clearing{Have: fs(2, 2), Paid: fs(2, 2, 0), Falls: [][]int{{0, 1}}}); e != api.ErrCheck {
		t.Error("a circle", e)
	}
}
