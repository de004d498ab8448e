package frac_test

import (
	standard "math/big"
	"math/rand"
	"testing"

	"consol/api"
	"consol/big"
	"consol/frac"
)

func of(p, q int) api.Frac {
	f, _ := frac.Of(p, q)
	return f
}

func wrongs() []api.Frac {
	return []api.Frac{{}, {P: big.Of(2), Q: big.Of(4)}, {P: big.Of(1), Q: big.Of(-2)}, {P: big.Of(0), Q: big.Of(2)}, {P: api.Big{Sign: 1}, Q: big.Of(1)}, {P: big.Of(1), Q: api.Big{Sign: 3, Digits: []int{1}}}}
}

func random(r *rand.Rand, digits int) api.Frac {
	number := func() api.Big {
		l := make([]int, 1+r.Intn(digits))
		for i := range l {
			l[i] = r.Intn(1<<20-1) + 1
		}
		return api.Big{Sign: 1, Digits: l}
	}
	p := number()
	if r.Intn(2) == 0 {
		p = big.Neg(p)
	}
	f, _ := frac.New(p, number())
	return f
}

func rat(f api.Frac) *standard.Rat {
	z, _ := new(standard.Rat).SetString(frac.Text(f))
	return z
}

func TestP5_1New(t *testing.T) {
	for _, w := range wrongs() {
		if frac.Right(w) {
			t.Error(w)
		}
	}
	if frac.Text(of(6, -4)) != "-3/2" || frac.Text(of(0, 7)) != "0/1" || frac.Text(of(0, -7)) != "0/1" || !frac.Right(of(5, 10)) {
		t.Error("of")
	}
	if f, e := frac.Of(1, 0); e != api.ErrDivide || f.P.Sign != 0 || f.Q.Sign != 0 {
		t.Error("divide")
	}
	if _, e := frac.New(api.Big{Sign: 1}, big.Of(0)); e != api.ErrArg {
		t.Error("arg")
	}
	if _, e := frac.New(big.Of(1), api.Big{Sign: 1}); e != api.ErrArg {
		t.Error("arg")
	}
}

func TestP5_2Operations(t *testing.T) {
	a, b := of(1, 2), of(1, 3)
	for i, f := range []func(a, b api.Frac) (api.Frac, api.Errno){frac.Add, frac.Sub, frac.Mul, frac.Div} {
		c, e := f(a, b)
		if want := []string{"5/6", "1/6", "1/6", "3/2"}[i]; frac.Text(c) != want || e != api.OK {
			t.Error(i, frac.Text(c))
		}
		for _, w := range wrongs() {
			if _, e := f(w, of(0, 1)); e != api.ErrArg {
				t.Error(i, w)
			}
			if _, e := f(a, w); e != api.ErrArg {
				t.Error(i, w)
			}
		}
	}
	if _, e := frac.Div(a, of(0, 1)); e != api.ErrDivide {
		t.Error("divide")
	}
	huge, _ := big.Read("1" + string(make0(200)))
	x, _ := frac.New(big.Of(1), huge)
	y, _ := frac.New(huge, big.Of(1))
	for i, f := range []func(a, b api.Frac) (api.Frac, api.Errno){frac.Add, frac.Sub, frac.Mul} {
		if c, e := f(x, x); e != api.ErrFull || c.Q.Sign != 0 {
			t.Error(i)
		}
	}
	if _, e := frac.Mul(y, y); e != api.ErrFull {
		t.Error("mul")
	}
	if _, e := frac.Div(y, x); e != api.ErrFull {
		t.Error("div")
	}
	if _, e := frac.Div(x, x); e != api.ErrFull && e != api.OK {
		t.Error("div")
	}
	if c, e := frac.Mul(x, y); e != api.OK || frac.Text(c) != "1/1" {
		t.Error("the products fit", e)
	}
}

func make0(n int) []byte {
	l := make([]byte, n)
	for i := range l {
		l[i] = '0'
	}
	return l
}

func TestP5_3Compare(t *testing.T) {
	if frac.Compare(of(-1, 2), of(-1, 3)) != -1 || frac.Compare(of(2, 4), of(1, 2)) != 0 || frac.Compare(of(1, 2), of(-1, 2)) != 1 {
		t.Error("compare")
	}
	for _, w := range wrongs() {
		if frac.Compare(w, of(5, 1)) != 0 || frac.Compare(of(5, 1), w) != 0 || frac.Floor(w).Sign != 0 {
			t.Error(w)
		}
	}
	r := rand.New(rand.NewSource(1))
	for range 2000 {
		a, b := random(r, 60), random(r, 60)
		if r.Intn(4) == 0 {
			b = api.Frac{P: a.P, Q: a.Q}
		}
		if frac.Compare(a, b) != rat(a).Cmp(rat(b)) {
			t.Fatal(frac.Text(a), frac.Text(b))
		}
	}
	for _, c := range [][3]int{{-3, 2, -2}, {3, 2, 1}, {4, 2, 2}, {-1, 9, -1}, {0, 1, 0}} {
		if !big.Same(frac.Floor(of(c[0], c[1])), big.Of(c[2])) {
			t.Error(c)
		}
	}
}

func TestP5_4Text(t *testing.T) {
	for _, w := range wrongs() {
		if frac.Text(w) != "" {
			t.Error(w)
		}
	}
	for _, s := range []string{"2/4", "", "/", "1", "1/0", "1/-2", "0/2", "01/2", "1/2/3", "-0/1", "1/2 ", "1" + string(make0(400)) + "/1"} {
		if f, e := frac.Read(s); e != api.ErrForm || f.P.Sign != 0 || f.Q.Sign != 0 {
			t.Errorf("%q", s)
		}
	}
	if f, e := frac.Read("-3/2"); e != api.OK || frac.Text(f) != "-3/2" {
		t.Error("read")
	}
}

func TestP5_5Fresh(t *testing.T) {
	a := of(3, 1)
	b, _ := frac.Add(a, of(0, 1))
	c, _ := frac.Mul(a, of(1, 1))
	d := frac.Floor(a)
	b.P.Digits[0], c.P.Digits[0], d.Digits[0] = 9, 9, 9
	if frac.Text(a) != "3/1" {
		t.Error("shared")
	}
}

func TestP5_6Field(t *testing.T) {
	r := rand.New(rand.NewSource(2))
	for range 500 {
		a, b, c := random(r, 8), random(r, 8), random(r, 8)
		s, _ := frac.Add(a, b)
		p, _ := frac.Mul(a, b)
		if rat(s).Cmp(new(standard.Rat).Add(rat(a), rat(b))) != 0 || rat(p).Cmp(new(standard.Rat).Mul(rat(a), rat(b))) != 0 || !frac.Right(s) || !frac.Right(p) {
			t.Fatal("sum")
		}
		d, _ := frac.Sub(s, b)
		q, _ := frac.Div(p, b)
		if frac.Compare(d, a) != 0 || frac.Compare(q, a) != 0 || !frac.Right(d) || !frac.Right(q) {
			t.Fatal("undo")
		}
		x, _ := frac.Mul(s, c)
		y, _ := frac.Mul(a, c)
		z, _ := frac.Mul(b, c)
		if w, _ := frac.Add(y, z); frac.Compare(w, x) != 0 || frac.Text(w) != frac.Text(x) {
			t.Fatal("distributive")
		}
	}
}

func TestP5_7Order(t *testing.T) {
	r := rand.New(rand.NewSource(3))
	for range 500 {
		a, b, c := random(r, 10), random(r, 10), random(r, 10)
		want := frac.Compare(a, b)
		x, _ := frac.Add(a, c)
		y, _ := frac.Add(b, c)
		d, _ := frac.Sub(a, b)
		if frac.Compare(x, y) != want || d.P.Sign != want || frac.Compare(b, a) != -want {
			t.Fatal("order")
		}
		c.P.Sign = 1
		x, _ = frac.Mul(a, c)
		y, _ = frac.Mul(b, c)
		if frac.Compare(x, y) != want {
			t.Fatal("product")
		}
	}
}

func TestP5_8ReadText(t *testing.T) {
	r := rand.New(rand.NewSource(4))
	for range 300 {
		a := random(r, 20)
		if b, e := frac.Read(frac.Text(a)); e != api.OK || frac.Text(b) != frac.Text(a) || !frac.Right(b) {
			t.Fatal(frac.Text(a))
		}
		k := big.Of(-r.Intn(1000) - 1)
		p, _ := big.Mul(a.P, k)
		q, _ := big.Mul(a.Q, k)
		if m, _ := frac.New(p, q); frac.Text(m) != frac.Text(a) {
			t.Fatal("multiple")
		}
		whole, _ := frac.New(frac.Floor(a), big.Of(1))
		more, _ := frac.Add(whole, of(1, 1))
		if frac.Compare(whole, a) > 0 || frac.Compare(more, a) <= 0 {
			t.Fatal("floor")
		}
	}
}

func number(zeros int, last string) api.Big {
	n, _ := big.Read("1" + string(make0(zeros)) + last)
	return n
}

func TestP5_2Full(t *testing.T) {
	// Only one of the products is too great, in either order.
	a, _ := frac.New(number(250, ""), big.Of(7))
	b, _ := frac.New(big.Of(1), number(250, "1"))
	c, _ := frac.New(big.Of(1), big.Of(3))
	for i, p := range [][2]api.Frac{{a, b}, {b, a}} {
		if _, e := frac.Add(p[0], p[1]); e != api.ErrFull {
			t.Error(i, e)
		}
		if _, e := frac.Sub(p[0], p[1]); e != api.ErrFull {
			t.Error(i, e)
		}
	}
	for i, p := range [][2]api.Frac{{a, c}, {b, c}, {c, a}, {c, b}} {
		if _, e := frac.Add(p[0], p[1]); e != api.OK {
			t.Error(i, e)
		}
	}
}

func TestP5_3Great(t *testing.T) {
	// A whole number against one that is nearly the same, whose products are too great.
	whole, _ := frac.New(number(360, ""), big.Of(1))
	q := number(179, "1")
	p, _ := big.Mul(q, number(179, ""))
	above, _ := big.Add(p, big.Of(1))
	exact, _ := frac.New(number(179, ""), big.Of(1))
	near, _ := frac.New(above, q)
	if frac.Compare(exact, near) != -1 || frac.Compare(near, exact) != 1 || frac.Compare(whole, whole) != 0 {
		t.Error("near")
	}
	third, _ := frac.New(number(300, ""), big.Of(3))
	fine, _ := frac.New(number(300, ""), number(200, "1"))
	if frac.Compare(whole, third) != 1 || frac.Compare(third, whole) != -1 || frac.Compare(fine, third) != -1 || frac.Compare(third, fine) != 1 {
		t.Error("great")
	}
	a, _ := frac.New(number(359, "1"), number(180, ""))
	b, _ := frac.New(number(179, ""), big.Of(1))
	if frac.Compare(a, b) != 1 || frac.Compare(b, a) != -1 {
		t.Error("a rest against none")
	}
}

// continued returns a whole number, and 1 divided by what the others are.
func continued(t *testing.T, l ...api.Big) api.Frac {
	t.Helper()
	f, e := frac.New(l[len(l)-1], big.Of(1))
	for i := len(l) - 2; i >= 0; i-- {
		whole, _ := frac.New(l[i], big.Of(1))
		if f, e = frac.Div(of(1, 1), f); e != api.OK {
			t.Fatal(e)
		}
		if f, e = frac.Add(whole, f); e != api.OK {
			t.Fatal(e)
		}
	}
	return f
}

func TestP5_3Ends(t *testing.T) {
	// One of them ends where the other one goes on, and their products are too great.
	n := number(100, "")
	short, long := continued(t, big.Of(0), n, n), continued(t, big.Of(0), n, n, number(150, ""))
	if _, e := big.Mul(short.P, long.Q); e != api.ErrFull || frac.Compare(short, long) != -1 || frac.Compare(long, short) != 1 {
		t.Error("after an even number of steps", e)
	}
	short, long = continued(t, big.Of(0), n, n, n), continued(t, big.Of(0), n, n, n, number(30, ""))
	if _, e := big.Mul(short.P, long.Q); e != api.ErrFull || frac.Compare(short, long) != 1 || frac.Compare(long, short) != -1 {
		t.Error("after an odd number of steps", e)
	}
	if frac.Compare(long, long) != 0 {
		t.Error("equal")
	}
}
