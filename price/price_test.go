package price_test

import (
	"math/rand"
	"slices"
	"strings"
	"testing"

	"consol/api"
	"consol/big"
	"consol/frac"
	"consol/price"
)

func f(p, q int) api.Frac {
	x, _ := frac.Of(p, q)
	return x
}

func factors() []api.Frac { return []api.Frac{f(1, 1), f(9, 10), f(1, 2)} }

func flow(day, amount int) api.Flow { return api.Flow{Day: day, Amount: amount} }

func TestP39_1Right(t *testing.T) {
	if !price.Right(factors()) || !price.Right(slices.Repeat([]api.Frac{f(1, 3)}, 60)) {
		t.Error("right")
	}
	for i, w := range [][]api.Frac{nil, slices.Repeat([]api.Frac{f(1, 3)}, 61), {f(0, 1)}, {f(-1, 2)}, {f(11, 10)}, {f(1, 2), f(2, 3)}, {{}}, {f(1, 1), {}}} {
		if price.Right(w) {
			t.Error(i)
		}
	}
}

func TestP39_2Value(t *testing.T) {
	v, e := price.Value([]api.Flow{flow(100, 10), flow(465, 20), flow(900, 30)}, 100, factors())
	if frac.Text(v) != "43/1" || e != api.OK {
		t.Error(frac.Text(v), e)
	}
	if v, e := price.Value(nil, 100, factors()); frac.Text(v) != "0/1" || e != api.OK {
		t.Error("nothing")
	}
	if v, e := price.Value([]api.Flow{flow(464, -3), flow(465, -3)}, 100, factors()); frac.Text(v) != "-57/10" || e != api.OK {
		t.Error(frac.Text(v))
	}
	for i, c := range []struct {
		flows   []api.Flow
		day     int
		factors []api.Frac
		want    api.Errno
	}{
		{[]api.Flow{flow(99, 10)}, 100, factors(), api.ErrEarly}, {[]api.Flow{flow(1195, 10)}, 100, factors(), api.ErrRange}, {[]api.Flow{flow(1195, 10), flow(99, 10)}, 100, factors(), api.ErrEarly}, {nil, -1, factors(), api.ErrArg}, {nil, 200001, factors(), api.ErrArg}, {[]api.Flow{flow(-1, 1)}, 0, factors(), api.ErrArg}, {[]api.Flow{flow(200001, 1)}, 0, factors(), api.ErrArg},
		{[]api.Flow{flow(1, api.MaxMoney+1)}, 0, factors(), api.ErrArg}, {[]api.Flow{flow(1, -api.MaxMoney-1)}, 0, factors(), api.ErrArg}, {make([]api.Flow, 401), 0, factors(), api.ErrArg}, {[]api.Flow{flow(99, 10)}, 100, nil, api.ErrArg},
	} {
		if v, e := price.Value(c.flows, c.day, c.factors); e != c.want || v.Q.Sign != 0 {
			t.Error(i, e)
		}
	}
	n, _ := big.Read("1" + strings.Repeat("0", 300))
	m, _ := big.Read("1" + strings.Repeat("0", 299) + "1")
	a, _ := frac.New(big.Of(1), n)
	b, _ := frac.New(big.Of(1), m)
	if _, e := price.Value([]api.Flow{flow(0, 1), flow(400, 1)}, 0, []api.Frac{a, b}); e != api.ErrFull {
		t.Error("full", e)
	}
}

func TestP39_3Dearer(t *testing.T) {
	one, other := []api.Flow{flow(100, 10)}, []api.Flow{flow(500, 10)}
	if !price.Dearer(one, other, 100) || price.Dearer(other, one, 100) || price.Dearer([]api.Flow{flow(100, 10), flow(500, 5)}, []api.Flow{flow(100, 4), flow(500, 12)}, 100) {
		t.Error("dearer")
	}
	if price.Dearer(one, other, 101) || price.Dearer(other, one, 101) || price.Dearer(make([]api.Flow, 401), nil, 0) || price.Dearer(nil, nil, -1) || !price.Dearer(nil, nil, 0) || !price.Dearer([]api.Flow{flow(200000, 1)}, nil, 0) {
		t.Error("arguments")
	}
}

func TestP39_4Cost(t *testing.T) {
	got, e := price.Cost([]api.Flow{flow(500, 5)}, 100, [][]api.Frac{factors(), {f(1, 1), f(1, 3)}})
	if !slices.Equal(got, []int{5, 2}) || e != api.OK {
		t.Error(got, e)
	}
	if got, _ := price.Cost([]api.Flow{flow(500, 10)}, 100, [][]api.Frac{factors()}); !slices.Equal(got, []int{9}) {
		t.Error("exactly", got)
	}
	if got, e := price.Cost([]api.Flow{flow(500, -1), flow(100, 0)}, 100, [][]api.Frac{{f(1, 1), f(1, 3)}}); !slices.Equal(got, []int{0}) || e != api.OK {
		t.Error("rounded up to 0", got, e)
	}
	for i, c := range []struct {
		flows     []api.Flow
		scenarios [][]api.Frac
		want      api.Errno
	}{{nil, nil, api.ErrArg}, {nil, slices.Repeat([][]api.Frac{factors()}, 21), api.ErrArg}, {[]api.Flow{flow(100, -1)}, [][]api.Frac{factors()}, api.ErrRange}, {[]api.Flow{flow(100, -1)}, [][]api.Frac{factors(), {}}, api.ErrArg}, {[]api.Flow{flow(100, api.MaxMoney), flow(101, 1)}, [][]api.Frac{factors()}, api.ErrRange}, {[]api.Flow{flow(99, 1)}, [][]api.Frac{factors()}, api.ErrEarly}} {
		if got, e := price.Cost(c.flows, 100, c.scenarios); len(got) != 0 || e != c.want {
			t.Error(i, e)
		}
	}
	if _, e := price.Cost(nil, 100, slices.Repeat([][]api.Frac{factors()}, 20)); e != api.OK {
		t.Error("20")
	}
}

func TestP39_5Pure(t *testing.T) {
	x := []api.Frac{f(1, 1)}
	v, _ := price.Value([]api.Flow{flow(0, 1)}, 0, x)
	v.P.Digits[0] = 7
	price.Cost([]api.Flow{flow(0, 1)}, 0, [][]api.Frac{x})
	if frac.Text(x[0]) != "1/1" {
		t.Error("shared")
	}
}

func random(r *rand.Rand) []api.Flow {
	var l []api.Flow
	for range r.Intn(6) {
		l = append(l, flow(r.Intn(1000), r.Intn(21)-5))
	}
	return l
}

func TestP39_6Theorem(t *testing.T) {
	r := rand.New(rand.NewSource(1))
	tiny := f(1, 1000000)
	yes := 0
	for range 2000 {
		a, b := random(r), random(r)
		dearer := price.Dearer(a, b, 0)
		if dearer {
			yes++
			x := []api.Frac{f(1+r.Intn(9), 10)}
			for range 2 {
				y, _ := frac.Mul(x[len(x)-1], f(1+r.Intn(9), 9))
				x = append(x, y)
			}
			v, _ := price.Value(a, 0, x)
			w, _ := price.Value(b, 0, x)
			if frac.Compare(v, w) < 0 {
				t.Fatal(a, b)
			}
			continue
		}
		found := false
		for k := 1; k <= 3; k++ {
			x := []api.Frac{tiny, tiny, tiny}
			for i := range k {
				x[i] = f(1, 1)
			}
			v, _ := price.Value(a, 0, x)
			w, _ := price.Value(b, 0, x)
			found = found || frac.Compare(v, w) < 0
		}
		if !found {
			t.Fatal(a, b)
		}
	}
	if yes == 0 {
		t.Error("none")
	}
}

func TestP39_7Sums(t *testing.T) {
	r := rand.New(rand.NewSource(2))
	for range 300 {
		a, b := random(r), random(r)
		v, _ := price.Value(a, 0, factors())
		w, _ := price.Value(b, 0, factors())
		both := slices.Concat(a, b)
		r.Shuffle(len(both), func(i, j int) { both[i], both[j] = both[j], both[i] })
		x, _ := price.Value(both, 0, factors())
		if s, _ := frac.Add(v, w); frac.Compare(s, x) != 0 {
			t.Fatal("sum")
		}
		day := r.Intn(700)
		y, _ := price.Value([]api.Flow{flow(day, 9)}, 0, factors())
		z, _ := price.Value([]api.Flow{flow(day+300, 9)}, 0, factors())
		if frac.Compare(z, y) > 0 {
			t.Fatal("later")
		}
	}
}

func TestP39_8Order(t *testing.T) {
	r := rand.New(rand.NewSource(3))
	for range 3000 {
		a, b, c := random(r), random(r), random(r)
		if !price.Dearer(a, a, 0) || price.Dearer(a, b, 0) && price.Dearer(b, c, 0) && !price.Dearer(a, c, 0) {
			t.Fatal(a, b, c)
		}
	}
}

func TestP39_2Limits(t *testing.T) {
	flows := slices.Repeat([]api.Flow{flow(0, -api.MaxMoney), flow(200000, api.MaxMoney)}, 200)
	if price.Dearer(flows, nil, 0) || !price.Dearer(nil, flows[:1], 0) || !price.Dearer(slices.Repeat([]api.Flow{flow(0, api.MaxMoney)}, 400), flows, 0) {
		t.Error("dearer")
	}
	v, e := price.Value(flows[:1], 0, factors())
	if frac.Text(v) != "-1000000000000000/1" || e != api.OK {
		t.Error(frac.Text(v), e)
	}
	if got, e := price.Cost([]api.Flow{flow(0, api.MaxMoney)}, 0, [][]api.Frac{factors()}); !slices.Equal(got, []int{api.MaxMoney}) || e != api.OK {
		t.Error(got, e)
	}
}
