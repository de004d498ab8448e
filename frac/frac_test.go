package frac

import (
	standard "math/big"
	"math/rand"
	"testing"

	"consol/api"
	"consol/big"
)

func of(p, q int) api.Frac {
	f, _ := Of(p, q)
	return f
}

func wrongs() []api.Frac {
	return []api.Frac{{}, {P: big.Of(2), Q: big.Of(4)}, {P: big.Of(1), Q: big.Of(-2)}, {P: big.Of(0), Q: big.Of(2)}, {P: api.Big{Sign: 1}, Q: big.Of(1)}, {P: big.Of(1), Q: api.Big{Sign: 3, Digits: []int{1}}}}
}

func random(r *rand.Rand, digits int) api.Frac {
	number := func() api.Big {
		l := make([]int, 1+r.Intn(digits))
		for i := range l {
			l[i] = r.Intn(1<<20-1) + 1
		}
		return api.Big{Sign: 1, Digits: l}
	}
	p := number()
	if r.Intn(2) == 0 {
		p = big.Neg(p)
	}
	f, _ := New(p, number())
	return f
}

func rat(f api.Frac) *standard.Rat {
	z, _ := new(standard.Rat).SetString(Text(f))
	return z
}

func TestP5_1New(t *testing.T) {
	for _, w := range wrongs() {
		if Right(w) {
			t.Error(w)
		}
	}
	if Text(of(6, -4)) != "-3/2" || Text(of(0, 7)) != "0/1" || Text(of(0, -7)) != "0/1" || !Right(of(5, 10)) {
		t.Error("of")
	}
	if f, e := Of(1, 0); e != api.ErrDivide || f.P.Sign != 0 || f.Q.Sign != 0 {
		t.Error("divide")
	}
	if _, e := New(api.Big{Sign: 1}, big.Of(0)); e != api.ErrArg {
		t.Error("arg")
	}
	if _, e := New(big.Of(1), api.Big{Sign: 1}); e != api.ErrArg {
		t.Error("arg")
	}
}

func TestP5_2Operations(t *testing.T) {
	a, b := of(1, 2), of(1, 3)
	for i, f := range []func(a, b api.Frac) (api.Frac, api.Errno){Add, Sub, Mul, Div} {
		c, e := f(a, b)
		if want := []string{"5/6", "1/6", "1/6", "3/2"}[i]; Text(c) != want || e != api.OK {
			t.Error(i, Text(c))
		}
		for _, w := range wrongs() {
			if _, e := f(w, of(0, 1)); e != api.ErrArg {
				t.Error(i, w)
			}
			if _, e := f(a, w); e != api.ErrArg {
				t.Error(i, w)
			}
		}
	}
	if _, e := Div(a, of(0, 1)); e != api.ErrDivide {
		t.Error("divide")
	}
	huge, _ := big.Read("1" + string(make0(200)))
	x, _ := New(big.Of(1), huge)
	y, _ := New(huge, big.Of(1))
	for i, f := range []func(a, b api.Frac) (api.Frac, api.Errno){Add, Sub, Mul} {
		if c, e := f(x, x); e != api.ErrFull || c.Q.Sign != 0 {
			t.Error(i)
		}
	}
	if _, e := Mul(y, y); e != api.ErrFull {
		t.Error("mul")
	}
	if _, e := Div(y, x); e != api.ErrFull {
		t.Error("div")
	}
	if _, e := Div(x, x); e != api.ErrFull && e != api.OK {
		t.Error("div")
	}
	if c, e := Mul(x, y); e != api.OK || Text(c) != "1/1" {
		t.Error("the products fit", e)
	}
}

func make0(n int) []byte {
	l := make([]byte, n)
	for i := range l {
		l[i] = '0'
	}
	return l
}

func TestP5_3Compare(t *testing.T) {
	if Compare(of(-1, 2), of(-1, 3)) != -1 || Compare(of(2, 4), of(1, 2)) != 0 || Compare(of(1, 2), of(-1, 2)) != 1 {
		t.Error("compare")
	}
	for _, w := range wrongs() {
		if Compare(w, of(5, 1)) != 0 || Compare(of(5, 1), w) != 0 || Floor(w).Sign != 0 {
			t.Error(w)
		}
	}
	r := rand.New(rand.NewSource(1))
	for range 2000 {
		a, b := random(r, 60), random(r, 60)
		if r.Intn(4) == 0 {
			b = api.Frac{P: a.P, Q: a.Q}
		}
		if Compare(a, b) != rat(a).Cmp(rat(b)) || compareByParts(a, b) != rat(a).Cmp(rat(b)) {
			t.Fatal(Text(a), Text(b))
		}
	}
	for _, c := range [][3]int{{-3, 2, -2}, {3, 2, 1}, {4, 2, 2}, {-1, 9, -1}, {0, 1, 0}} {
		if !big.Same(Floor(of(c[0], c[1])), big.Of(c[2])) {
			t.Error(c)
		}
	}
}

func TestP5_4Text(t *testing.T) {
	for _, w := range wrongs() {
		if Text(w) != "" {
			t.Error(w)
		}
	}
	for _, s := range []string{"2/4", "", "/", "1", "1/0", "1/-2", "0/2", "01/2", "1/2/3", "-0/1", "1/2 ", "1" + string(make0(400)) + "/1"} {
		if f, e := Read(s); e != api.ErrForm || f.P.Sign != 0 || f.Q.Sign != 0 {
			t.Errorf("%q", s)
		}
	}
	if f, e := Read("-3/2"); e != api.OK || Text(f) != "-3/2" {
		t.Error("read")
	}
}

func TestP5_5Fresh(t *testing.T) {
	a := of(3, 1)
	b, _ := Add(a, of(0, 1))
	c, _ := Mul(a, of(1, 1))
	d := Floor(a)
	b.P.Digits[0], c.P.Digits[0], d.Digits[0] = 9, 9, 9
	if Text(a) != "3/1" {
		t.Error("shared")
	}
}

func TestP5_6Field(t *testing.T) {
	r := rand.New(rand.NewSource(2))
	for range 500 {
		a, b, c := random(r, 8), random(r, 8), random(r, 8)
		s, _ := Add(a, b)
		p, _ := Mul(a, b)
		if rat(s).Cmp(new(standard.Rat).Add(rat(a), rat(b))) != 0 || rat(p).Cmp(new(standard.Rat).Mul(rat(a), rat(b))) != 0 || !Right(s) || !Right(p) {
			t.Fatal("sum")
		}
		d, _ := Sub(s, b)
		q, _ := Div(p, b)
		if Compare(d, a) != 0 || Compare(q, a) != 0 || !Right(d) || !Right(q) {
			t.Fatal("undo")
		}
		x, _ := Mul(s, c)
		y, _ := Mul(a, c)
		z, _ := Mul(b, c)
		if w, _ := Add(y, z); Compare(w, x) != 0 || Text(w) != Text(x) {
			t.Fatal("distributive")
		}
	}
}

func TestP5_7Order(t *testing.T) {
	r := rand.New(rand.NewSource(3))
	for range 500 {
		a, b, c := random(r, 10), random(r, 10), random(r, 10)
		want := Compare(a, b)
		x, _ := Add(a, c)
		y, _ := Add(b, c)
		d, _ := Sub(a, b)
		if Compare(x, y) != want || d.P.Sign != want || Compare(b, a) != -want {
			t.Fatal("order")
		}
		c.P.Sign = 1
		x, _ = Mul(a, c)
		y, _ = Mul(b, c)
		if Compare(x, y) != want {
			t.Fatal("product")
		}
	}
}

func TestP5_8ReadText(t *testing.T) {
	r := rand.New(rand.NewSource(4))
	for range 300 {
		a := random(r, 20)
		if b, e := Read(Text(a)); e != api.OK || Text(b) != Text(a) || !Right(b) {
			t.Fatal(Text(a))
		}
		k := big.Of(-r.Intn(1000) - 1)
		p, _ := big.Mul(a.P, k)
		q, _ := big.Mul(a.Q, k)
		if m, _ := New(p, q); Text(m) != Text(a) {
			t.Fatal("multiple")
		}
		whole, _ := New(Floor(a), big.Of(1))
		more, _ := Add(whole, of(1, 1))
		if Compare(whole, a) > 0 || Compare(more, a) <= 0 {
			t.Fatal("floor")
		}
	}
}
