package accrue_test

import (
	"math/rand"
	"strings"
	"testing"

	"consol/accrue"
	"consol/api"
	"consol/big"
	"consol/date"
	"consol/frac"
)

func f(p, q int) api.Frac {
	x, _ := frac.Of(p, q)
	return x
}

func share(count, from, to int) string {
	x, _ := accrue.Share(count, from, to)
	return frac.Text(x)
}

func TestP9_1Counts(t *testing.T) {
	for _, c := range []struct {
		count, from, to int
		want            string
	}{
		{api.CoThirty, 0, 31, "1/12"}, {api.CoFixed, 0, 31, "31/365"}, {api.CoActual, 0, 31, "31/365"}, {api.CoFixed, 0, 365, "1/1"}, {api.CoThirty, 0, 365, "1/1"}, {api.CoActual, 0, 0, "0/1"},
		{api.CoActual, 36524, 36524 + 366, "1/1"}, {api.CoActual, 36523, 36525, "731/133590"}, {api.CoActual, 199999, 200000, "1/365"}, {api.CoThirty, 29, 30, "0/1"},
	} {
		if got := share(c.count, c.from, c.to); got != c.want {
			t.Error(c, got)
		}
	}
	for _, c := range [][4]int{{api.CoThirty, 30, 59, 31}, {api.CoThirty, 58, 59, 3}, {api.CoFixed, 58, 59, 1}, {api.CoActual, 5, 5, 0}} {
		if n, e := accrue.Days(c[0], c[1], c[2]); n != c[3] || e != api.OK {
			t.Error(c, n)
		}
	}
	for _, c := range [][3]int{{-1, 0, 1}, {api.CoKinds, 0, 1}, {0, -1, 1}, {0, 0, 200001}, {0, 2, 1}} {
		n, e := accrue.Days(c[0], c[1], c[2])
		x, g := accrue.Share(c[0], c[1], c[2])
		if n != 0 || e != api.ErrArg || g != api.ErrArg || x.Q.Sign != 0 {
			t.Error(c)
		}
	}
}

func TestP9_2Amount(t *testing.T) {
	a, e := accrue.Amount(1000, 3, f(1, 20), f(1, 2))
	if frac.Text(a) != "75/1" || e != api.OK {
		t.Error(frac.Text(a))
	}
	if a, e := accrue.Amount(0, 0, f(0, 1), f(0, 1)); frac.Text(a) != "0/1" || e != api.OK {
		t.Error("nothing")
	}
	if _, e := accrue.Amount(api.MaxMoney, api.MaxUnits, f(1, 1), f(1, 1)); e != api.OK {
		t.Error("limits")
	}
	for i, c := range []struct {
		face, units int
		rate, share api.Frac
	}{{-1, 1, f(1, 1), f(1, 1)}, {api.MaxMoney + 1, 1, f(1, 1), f(1, 1)}, {1, -1, f(1, 1), f(1, 1)}, {1, api.MaxUnits + 1, f(1, 1), f(1, 1)}, {1, 1, f(-1, 1), f(1, 1)}, {1, 1, f(1, 1), f(-1, 1)}, {1, 1, api.Frac{}, f(1, 1)}, {1, 1, f(1, 1), api.Frac{}}} {
		if a, e := accrue.Amount(c.face, c.units, c.rate, c.share); e != api.ErrArg || a.Q.Sign != 0 {
			t.Error(i)
		}
	}
	n, _ := big.Read("1" + strings.Repeat("0", 350))
	huge, _ := frac.New(n, big.Of(1))
	if _, e := accrue.Amount(api.MaxMoney, 1, huge, f(1, 1)); e != api.ErrFull {
		t.Error("full")
	}
	if _, e := accrue.Amount(1, 1, huge, huge); e != api.ErrFull {
		t.Error("full")
	}
}

func TestP9_3Floor(t *testing.T) {
	for _, c := range []struct {
		f    api.Frac
		want int
		e    api.Errno
	}{{f(7, 2), 3, api.OK}, {f(-1, 2), 0, api.ErrRange}, {f(0, 1), 0, api.OK}, {f(api.MaxMoney, 1), api.MaxMoney, api.OK}, {f(2*api.MaxMoney+1, 2), api.MaxMoney, api.OK}, {f(api.MaxMoney+1, 1), 0, api.ErrRange}, {api.Frac{}, 0, api.ErrArg}} {
		if n, e := accrue.Floor(c.f); n != c.want || e != c.e {
			t.Error(frac.Text(c.f), n, e)
		}
	}
	n, _ := big.Read("1" + strings.Repeat("0", 50))
	huge, _ := frac.New(n, big.Of(1))
	if n, e := accrue.Floor(huge); n != 0 || e != api.ErrRange {
		t.Error("huge")
	}
}

func TestP9_4Pure(t *testing.T) {
	rate := f(3, 1)
	a, _ := accrue.Amount(1, 1, rate, f(1, 1))
	a.P.Digits[0] = 7
	if frac.Text(rate) != "3/1" {
		t.Error("shared")
	}
}

func TestP9_5Adds(t *testing.T) {
	r := rand.New(rand.NewSource(1))
	for range 500 {
		a := r.Intn(60000)
		b := a + r.Intn(2000)
		c := b + r.Intn(2000)
		for count := range api.CoKinds {
			x, _ := accrue.Share(count, a, b)
			y, _ := accrue.Share(count, b, c)
			s, _ := frac.Add(x, y)
			m, _ := accrue.Days(count, a, b)
			n, _ := accrue.Days(count, b, c)
			all, _ := accrue.Days(count, a, c)
			if frac.Text(s) != share(count, a, c) || m+n != all {
				t.Fatal(count, a, b, c)
			}
		}
	}
}

func TestP9_6Years(t *testing.T) {
	for y := 1900; y < 2100; y++ {
		a, _ := date.Of(y, 1, 1)
		b, _ := date.Of(y+1, 1, 1)
		if share(api.CoThirty, a, b) != "1/1" || share(api.CoActual, a, b) != "1/1" {
			t.Fatal(y)
		}
	}
	from, _ := date.Of(1999, 3, 28)
	for n := range 60 {
		to, _ := date.AddMonths(from, n)
		if share(api.CoThirty, from, to) != frac.Text(f(n, 12)) {
			t.Fatal(n)
		}
	}
	for count := range api.CoKinds {
		before := f(0, 1)
		for to := 36000; to < 36900; to++ {
			x, _ := accrue.Share(count, 36000, to)
			if frac.Compare(x, before) < 0 {
				t.Fatal(to)
			}
			before = x
		}
	}
}

func TestP9_7Amounts(t *testing.T) {
	r := rand.New(rand.NewSource(2))
	for range 300 {
		face, u, v := r.Intn(5000), r.Intn(100), r.Intn(100)
		rate, part := f(r.Intn(100), 1000), f(r.Intn(360), 360)
		a, _ := accrue.Amount(face, u, rate, part)
		b, _ := accrue.Amount(face, v, rate, part)
		c, _ := accrue.Amount(face, u+v, rate, part)
		if s, _ := frac.Add(a, b); frac.Compare(s, c) != 0 {
			t.Fatal("sum")
		}
		x, _ := accrue.Floor(a)
		y, _ := accrue.Floor(b)
		z, _ := accrue.Floor(c)
		if x+y > z || x+y < z-1 {
			t.Fatal("floors")
		}
	}
}
