package big_test

import (
	"math"
	standard "math/big"
	"math/rand"
	"testing"

	"consol/api"
	"consol/big"
)

const (
	digitBase = 1 << 20
	digitMask = digitBase - 1
)

func trimmed(l []int) []int {
	for len(l) > 0 && l[len(l)-1] == 0 {
		l = l[:len(l)-1]
	}
	return l
}

func positive(a api.Big) api.Big {
	if a.Sign < 0 {
		a.Sign = 1
	}
	return a
}

func toStandard(a api.Big) *standard.Int {
	z := new(standard.Int)
	z.SetString(big.Text(a), 10)
	return z
}

func random(r *rand.Rand) api.Big {
	n := r.Intn(61)
	if r.Intn(3) == 0 {
		n = r.Intn(5)
	}
	l := make([]int, n)
	for i := range l {
		switch r.Intn(4) {
		case 0:
			l[i] = digitMask
		case 1:
			l[i] = r.Intn(3)
		default:
			l[i] = r.Intn(digitBase)
		}
	}
	l = trimmed(l)
	if len(l) == 0 {
		return api.Big{}
	}
	return api.Big{Sign: r.Intn(2)*2 - 1, Digits: l}
}

func pow(n int) api.Big {
	l := make([]int, n/20+1)
	l[n/20] = 1 << (n % 20)
	return api.Big{Sign: 1, Digits: l}
}

func most() api.Big {
	l := make([]int, 60)
	for i := range l {
		l[i] = digitMask
	}
	return api.Big{Sign: 1, Digits: l}
}

func wrongs() []api.Big {
	return []api.Big{{Sign: 2, Digits: []int{1}}, {Sign: -2, Digits: []int{1}}, {Sign: 1}, {Sign: 0, Digits: []int{1}}, {Sign: 1, Digits: []int{0}}, {Sign: 1, Digits: []int{1, 0}}, {Sign: 1, Digits: []int{digitBase}}, {Sign: 1, Digits: []int{-1, 1}}, {Sign: 1, Digits: append(make([]int, 60), 1)}}
}

func TestP4_1Basics(t *testing.T) {
	if a := big.Of(1048577); a.Sign != 1 || len(a.Digits) != 2 || a.Digits[0] != 1 || a.Digits[1] != 1 {
		t.Error(a)
	}
	for _, n := range []int{0, 1, -1, digitMask, digitBase, math.MaxInt, math.MinInt, math.MinInt + 1} {
		if m, ok := big.Int(big.Of(n)); m != n || !ok || !big.Right(big.Of(n)) {
			t.Error(n)
		}
	}
	for _, a := range []api.Big{pow(63), pow(64), pow(80), pow(1199), {Sign: -1, Digits: []int{1, 0, 0, 8}}} {
		if n, ok := big.Int(a); n != 0 || ok || !big.Right(a) {
			t.Error(a)
		}
	}
	for _, w := range wrongs() {
		if _, ok := big.Int(w); big.Right(w) || ok || big.Compare(w, big.Of(5)) != 0 || big.Compare(big.Of(5), w) != 0 || big.Neg(w).Sign != 0 || len(big.Neg(w).Digits) != 0 || !big.Same(w, w) {
			t.Error(w)
		}
	}
	if big.Same(big.Of(1), big.Of(-1)) || big.Same(big.Of(1), big.Of(2)) || !big.Same(api.Big{}, api.Big{Digits: []int{}}) {
		t.Error("same")
	}
	if big.Compare(big.Of(-3), big.Of(2)) != -1 || big.Compare(big.Of(-3), big.Of(-2)) != -1 || big.Compare(pow(40), big.Of(7)) != 1 || big.Compare(big.Of(7), big.Of(7)) != 0 || big.Compare(big.Of(0), big.Of(-1)) != 1 {
		t.Error("compare")
	}
	if !big.Same(big.Neg(big.Of(5)), big.Of(-5)) || !big.Same(big.Neg(big.Of(0)), big.Of(0)) {
		t.Error("neg")
	}
}

func TestP4_2Errors(t *testing.T) {
	for _, w := range wrongs() {
		for _, f := range []func(a, b api.Big) (api.Big, api.Errno){big.Add, big.Sub, big.Mul, big.Gcd} {
			for _, p := range [][2]api.Big{{w, big.Of(1)}, {big.Of(1), w}} {
				if a, e := f(p[0], p[1]); e != api.ErrArg || a.Sign != 0 || len(a.Digits) != 0 {
					t.Error(w)
				}
			}
		}
		if _, _, e := big.Div(w, big.Of(0)); e != api.ErrArg {
			t.Error(w)
		}
	}
	if q, r, e := big.Div(big.Of(1), big.Of(0)); e != api.ErrDivide || q.Sign != 0 || r.Sign != 0 {
		t.Error("divide")
	}
	if _, e := big.Add(most(), big.Of(1)); e != api.ErrFull {
		t.Error("add")
	}
	if _, e := big.Sub(big.Neg(most()), big.Of(1)); e != api.ErrFull {
		t.Error("sub")
	}
	if a, e := big.Mul(pow(600), pow(600)); e != api.ErrFull || len(a.Digits) != 0 {
		t.Error("mul")
	}
	if a, e := big.Mul(pow(599), pow(600)); e != api.OK || !big.Same(a, pow(1199)) {
		t.Error("mul")
	}
	if a, e := big.Mul(most(), big.Of(0)); e != api.OK || a.Sign != 0 {
		t.Error("mul by 0")
	}
}

func TestP4_2Results(t *testing.T) {
	for _, c := range [][4]int{{-7, 2, -4, 1}, {7, -2, -4, -1}, {-7, -2, 3, -1}, {6, -3, -2, 0}, {0, 5, 0, 0}, {math.MinInt, -1, 0, 0}} {
		q, r, e := big.Div(big.Of(c[0]), big.Of(c[1]))
		if c[0] == math.MinInt {
			if !big.Same(q, pow(63)) {
				t.Error(q)
			}
			continue
		}
		if e != api.OK || !big.Same(q, big.Of(c[2])) || !big.Same(r, big.Of(c[3])) {
			t.Error(c, q, r)
		}
	}
	for _, c := range [][3]int{{-12, 18, 6}, {0, -5, 5}, {0, 0, 0}, {7, 13, 1}} {
		if g, e := big.Gcd(big.Of(c[0]), big.Of(c[1])); e != api.OK || !big.Same(g, big.Of(c[2])) {
			t.Error(c)
		}
	}
	limit := new(standard.Int).Lsh(standard.NewInt(1), 1200)
	r := rand.New(rand.NewSource(1))
	for range 3000 {
		a, b := random(r), random(r)
		if r.Intn(3) == 0 {
			if c, e := big.Mul(a, b); e == api.OK {
				a = c
			}
		}
		x, y := toStandard(a), toStandard(b)
		check := func(got api.Big, e api.Errno, want *standard.Int) {
			t.Helper()
			full := want.CmpAbs(limit) >= 0
			if full != (e == api.ErrFull) || !big.Right(got) || !full && toStandard(got).Cmp(want) != 0 {
				t.Fatal(big.Text(a), big.Text(b), big.Text(got), want, e)
			}
		}
		got, e := big.Add(a, b)
		check(got, e, new(standard.Int).Add(x, y))
		got, e = big.Sub(a, b)
		check(got, e, new(standard.Int).Sub(x, y))
		got, e = big.Mul(a, b)
		check(got, e, new(standard.Int).Mul(x, y))
		got, e = big.Gcd(a, b)
		check(got, e, new(standard.Int).GCD(nil, nil, new(standard.Int).Abs(x), new(standard.Int).Abs(y)))
		if b.Sign == 0 {
			continue
		}
		q, m, e := big.Div(a, b)
		wq, wm := new(standard.Int).QuoRem(x, y, new(standard.Int))
		if wm.Sign() != 0 && wm.Sign() != y.Sign() {
			wq.Sub(wq, standard.NewInt(1))
			wm.Add(wm, y)
		}
		check(q, e, wq)
		check(m, e, wm)
	}
}

func TestP4_2LongDivision(t *testing.T) {
	r := rand.New(rand.NewSource(2))
	for range 20000 {
		v := make([]int, 2+r.Intn(3))
		u := make([]int, len(v)+1+r.Intn(3))
		for _, l := range [][]int{u, v} {
			for i := range l {
				l[i] = []int{0, 1, digitMask, digitMask - 1, digitBase / 2, digitBase/2 - 1, r.Intn(digitBase)}[r.Intn(7)]
			}
			l[len(l)-1] |= 1
		}
		a, b := api.Big{Sign: 1, Digits: u}, api.Big{Sign: 1, Digits: v}
		q, m, _ := big.Div(a, b)
		wq, wm := new(standard.Int).QuoRem(toStandard(a), toStandard(b), new(standard.Int))
		if toStandard(q).Cmp(wq) != 0 || toStandard(m).Cmp(wm) != 0 || !big.Right(q) || !big.Right(m) {
			t.Fatal(u, v)
		}
	}
}

func TestP4_3Text(t *testing.T) {
	p, _ := big.Mul(big.Of(-99999999999), big.Of(99999999999))
	if big.Text(p) != "-9999999999800000000001" || big.Text(big.Of(0)) != "0" || big.Text(big.Of(1000000)) != "1000000" || big.Text(big.Of(-1000007)) != "-1000007" {
		t.Error(big.Text(p))
	}
	for _, w := range wrongs() {
		if big.Text(w) != "" {
			t.Error(w)
		}
	}
	for _, s := range []string{"007", "-0", "", "-", "+1", "1a", "--1", " 1", "00", "-01"} {
		if a, e := big.Read(s); e != api.ErrForm || a.Sign != 0 {
			t.Errorf("%q", s)
		}
	}
	full := new(standard.Int).Lsh(standard.NewInt(1), 1200)
	if _, e := big.Read(full.String()); e != api.ErrFull {
		t.Error("full")
	}
	if _, e := big.Read("-" + full.String() + "00"); e != api.ErrFull {
		t.Error("full")
	}
	if a, e := big.Read(full.Sub(full, standard.NewInt(1)).String()); e != api.OK || !big.Same(a, most()) {
		t.Error("most")
	}
}

func TestP4_4Fresh(t *testing.T) {
	a := big.Of(5)
	for _, b := range []api.Big{big.Neg(a), first(big.Add(a, big.Of(0))), first(big.Add(big.Of(0), a)), first(big.Sub(a, big.Of(0))), first(big.Gcd(a, big.Of(0)))} {
		b.Digits[0] = 9
	}
	_, m, _ := big.Div(a, big.Of(100))
	m.Digits[0] = 9
	if a.Digits[0] != 5 {
		t.Error("shared")
	}
}

func first(a api.Big, _ api.Errno) api.Big { return a }

func TestP4_5Ring(t *testing.T) {
	r := rand.New(rand.NewSource(3))
	for range 500 {
		a, b, c := random(r), random(r), random(r)
		ab, e := big.Add(a, b)
		if ba, e2 := big.Add(b, a); !big.Same(ab, ba) || e != e2 {
			t.Fatal("add")
		}
		d, e := big.Sub(a, b)
		if e == api.OK {
			if back, _ := big.Add(d, b); !big.Same(back, a) {
				t.Fatal("undo")
			}
			if big.Compare(a, b) != d.Sign {
				t.Fatal("order")
			}
		}
		p, e := big.Mul(ab, c)
		x, e1 := big.Mul(a, c)
		y, e2 := big.Mul(b, c)
		if s, e3 := big.Add(x, y); e+e1+e2+e3 == api.OK && !big.Same(s, p) {
			t.Fatal("distributive")
		}
	}
}

func TestP4_6Division(t *testing.T) {
	r := rand.New(rand.NewSource(4))
	for range 1000 {
		a, b := random(r), random(r)
		g, _ := big.Gcd(a, b)
		h, _ := big.Gcd(b, big.Neg(a))
		if !big.Same(g, h) {
			t.Fatal("gcd")
		}
		if a.Sign != 0 {
			_, m, _ := big.Div(b, a)
			if k, _ := big.Gcd(a, m); !big.Same(g, k) {
				t.Fatal("gcd of the remainder")
			}
		}
		if b.Sign == 0 {
			continue
		}
		q, m, _ := big.Div(a, b)
		p, e := big.Mul(q, b)
		if s, e2 := big.Add(p, m); e == api.OK && e2 == api.OK && !big.Same(s, a) {
			t.Fatal("quotient")
		}
		if m.Sign != 0 && m.Sign != b.Sign || big.Compare(positive(m), positive(b)) >= 0 {
			t.Fatal("remainder")
		}
	}
}

func TestP4_7ReadText(t *testing.T) {
	r := rand.New(rand.NewSource(5))
	for range 1000 {
		a := random(r)
		if b, e := big.Read(big.Text(a)); e != api.OK || !big.Same(a, b) {
			t.Fatal(big.Text(a))
		}
		x, y := r.Intn(1<<31)-1<<30, r.Intn(1<<31)-1<<30
		p, _ := big.Mul(big.Of(x), big.Of(y))
		s, _ := big.Add(big.Of(x), big.Of(y))
		if n, ok := big.Int(p); n != x*y || !ok {
			t.Fatal(x, y)
		}
		if n, ok := big.Int(s); n != x+y || !ok {
			t.Fatal(x, y)
		}
	}
}

func BenchmarkGcd(b *testing.B) {
	r := rand.New(rand.NewSource(6))
	x, y := most(), most()
	for i := range x.Digits {
		x.Digits[i], y.Digits[i] = r.Intn(digitBase-1)+1, r.Intn(digitBase-1)+1
	}
	for range b.N {
		big.Gcd(x, y)
	}
}

func TestP4_1Zero(t *testing.T) {
	for _, a := range append(wrongs(), pow(63), pow(100)) {
		if n, ok := big.Int(a); n != 0 || ok {
			t.Error(a)
		}
	}
	if big.Compare(big.Of(0), big.Of(0)) != 0 || big.Compare(big.Of(0), big.Of(1)) != -1 {
		t.Error("compare")
	}
	if a, e := big.Sub(big.Of(5), big.Of(5)); e != api.OK || a.Sign != 0 || len(a.Digits) != 0 {
		t.Error("nothing is left")
	}
}
