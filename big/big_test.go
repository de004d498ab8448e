package big

import (
	"math"
	standard "math/big"
	"math/rand"
	"testing"

	"consol/api"
)

func toStandard(a api.Big) *standard.Int {
	z := new(standard.Int)
	z.SetString(Text(a), 10)
	return z
}

func random(r *rand.Rand) api.Big {
	n := r.Intn(61)
	if r.Intn(3) == 0 {
		n = r.Intn(5)
	}
	l := make([]int, n)
	for i := range l {
		switch r.Intn(4) {
		case 0:
			l[i] = mask
		case 1:
			l[i] = r.Intn(3)
		default:
			l[i] = r.Intn(base)
		}
	}
	l = trim(l)
	if len(l) == 0 {
		return api.Big{}
	}
	return api.Big{Sign: r.Intn(2)*2 - 1, Digits: l}
}

func pow(n int) api.Big {
	l := make([]int, n/20+1)
	l[n/20] = 1 << (n % 20)
	return api.Big{Sign: 1, Digits: l}
}

func most() api.Big {
	l := make([]int, 60)
	for i := range l {
		l[i] = mask
	}
	return api.Big{Sign: 1, Digits: l}
}

func wrongs() []api.Big {
	return []api.Big{{Sign: 2, Digits: []int{1}}, {Sign: -2, Digits: []int{1}}, {Sign: 1}, {Sign: 0, Digits: []int{1}}, {Sign: 1, Digits: []int{0}}, {Sign: 1, Digits: []int{1, 0}}, {Sign: 1, Digits: []int{base}}, {Sign: 1, Digits: []int{-1, 1}}, {Sign: 1, Digits: append(make([]int, 60), 1)}}
}

func TestP4_1Basics(t *testing.T) {
	if a := Of(1048577); a.Sign != 1 || len(a.Digits) != 2 || a.Digits[0] != 1 || a.Digits[1] != 1 {
		t.Error(a)
	}
	for _, n := range []int{0, 1, -1, mask, base, math.MaxInt, math.MinInt, math.MinInt + 1} {
		if m, ok := Int(Of(n)); m != n || !ok || !Right(Of(n)) {
			t.Error(n)
		}
	}
	for _, a := range []api.Big{pow(63), pow(64), pow(80), pow(1199), {Sign: -1, Digits: []int{1, 0, 0, 8}}} {
		if n, ok := Int(a); n != 0 || ok || !Right(a) {
			t.Error(a)
		}
	}
	for _, w := range wrongs() {
		if _, ok := Int(w); Right(w) || ok || Compare(w, Of(5)) != 0 || Compare(Of(5), w) != 0 || Neg(w).Sign != 0 || Neg(w).Digits != nil || !Same(w, w) {
			t.Error(w)
		}
	}
	if Same(Of(1), Of(-1)) || Same(Of(1), Of(2)) || !Same(api.Big{}, api.Big{Digits: []int{}}) {
		t.Error("same")
	}
	if Compare(Of(-3), Of(2)) != -1 || Compare(Of(-3), Of(-2)) != -1 || Compare(pow(40), Of(7)) != 1 || Compare(Of(7), Of(7)) != 0 || Compare(Of(0), Of(-1)) != 1 {
		t.Error("compare")
	}
	if !Same(Neg(Of(5)), Of(-5)) || !Same(Neg(Of(0)), Of(0)) {
		t.Error("neg")
	}
}

func TestP4_2Errors(t *testing.T) {
	for _, w := range wrongs() {
		for _, f := range []func(a, b api.Big) (api.Big, api.Errno){Add, Sub, Mul, Gcd} {
			for _, p := range [][2]api.Big{{w, Of(1)}, {Of(1), w}} {
				if a, e := f(p[0], p[1]); e != api.ErrArg || a.Sign != 0 || a.Digits != nil {
					t.Error(w)
				}
			}
		}
		if _, _, e := Div(w, Of(0)); e != api.ErrArg {
			t.Error(w)
		}
	}
	if q, r, e := Div(Of(1), Of(0)); e != api.ErrDivide || q.Sign != 0 || r.Sign != 0 {
		t.Error("divide")
	}
	if _, e := Add(most(), Of(1)); e != api.ErrFull {
		t.Error("add")
	}
	if _, e := Sub(Neg(most()), Of(1)); e != api.ErrFull {
		t.Error("sub")
	}
	if a, e := Mul(pow(600), pow(600)); e != api.ErrFull || a.Digits != nil {
		t.Error("mul")
	}
	if a, e := Mul(pow(599), pow(600)); e != api.OK || !Same(a, pow(1199)) {
		t.Error("mul")
	}
	if a, e := Mul(most(), Of(0)); e != api.OK || a.Sign != 0 {
		t.Error("mul by 0")
	}
}

func TestP4_2Results(t *testing.T) {
	for _, c := range [][4]int{{-7, 2, -4, 1}, {7, -2, -4, -1}, {-7, -2, 3, -1}, {6, -3, -2, 0}, {0, 5, 0, 0}, {math.MinInt, -1, 0, 0}} {
		q, r, e := Div(Of(c[0]), Of(c[1]))
		if c[0] == math.MinInt {
			if !Same(q, pow(63)) {
				t.Error(q)
			}
			continue
		}
		if e != api.OK || !Same(q, Of(c[2])) || !Same(r, Of(c[3])) {
			t.Error(c, q, r)
		}
	}
	for _, c := range [][3]int{{-12, 18, 6}, {0, -5, 5}, {0, 0, 0}, {7, 13, 1}} {
		if g, e := Gcd(Of(c[0]), Of(c[1])); e != api.OK || !Same(g, Of(c[2])) {
			t.Error(c)
		}
	}
	limit := new(standard.Int).Lsh(standard.NewInt(1), 1200)
	r := rand.New(rand.NewSource(1))
	for range 3000 {
		a, b := random(r), random(r)
		if r.Intn(3) == 0 {
			if c, e := Mul(a, b); e == api.OK {
				a = c
			}
		}
		x, y := toStandard(a), toStandard(b)
		check := func(got api.Big, e api.Errno, want *standard.Int) {
			t.Helper()
			full := want.CmpAbs(limit) >= 0
			if full != (e == api.ErrFull) || !Right(got) || !full && toStandard(got).Cmp(want) != 0 {
				t.Fatal(Text(a), Text(b), Text(got), want, e)
			}
		}
		got, e := Add(a, b)
		check(got, e, new(standard.Int).Add(x, y))
		got, e = Sub(a, b)
		check(got, e, new(standard.Int).Sub(x, y))
		got, e = Mul(a, b)
		check(got, e, new(standard.Int).Mul(x, y))
		got, e = Gcd(a, b)
		check(got, e, new(standard.Int).GCD(nil, nil, new(standard.Int).Abs(x), new(standard.Int).Abs(y)))
		if b.Sign == 0 {
			continue
		}
		q, m, e := Div(a, b)
		wq, wm := new(standard.Int).QuoRem(x, y, new(standard.Int))
		if wm.Sign() != 0 && wm.Sign() != y.Sign() {
			wq.Sub(wq, standard.NewInt(1))
			wm.Add(wm, y)
		}
		check(q, e, wq)
		check(m, e, wm)
	}
}

func TestP4_2LongDivision(t *testing.T) {
	r := rand.New(rand.NewSource(2))
	for range 20000 {
		v := make([]int, 2+r.Intn(3))
		u := make([]int, len(v)+1+r.Intn(3))
		for _, l := range [][]int{u, v} {
			for i := range l {
				l[i] = []int{0, 1, mask, mask - 1, base / 2, base/2 - 1, r.Intn(base)}[r.Intn(7)]
			}
			l[len(l)-1] |= 1
		}
		a, b := api.Big{Sign: 1, Digits: u}, api.Big{Sign: 1, Digits: v}
		q, m, _ := Div(a, b)
		wq, wm := new(standard.Int).QuoRem(toStandard(a), toStandard(b), new(standard.Int))
		if toStandard(q).Cmp(wq) != 0 || toStandard(m).Cmp(wm) != 0 || !Right(q) || !Right(m) {
			t.Fatal(u, v)
		}
	}
}

func TestP4_3Text(t *testing.T) {
	p, _ := Mul(Of(-99999999999), Of(99999999999))
	if Text(p) != "-9999999999800000000001" || Text(Of(0)) != "0" || Text(Of(1000000)) != "1000000" || Text(Of(-1000007)) != "-1000007" {
		t.Error(Text(p))
	}
	for _, w := range wrongs() {
		if Text(w) != "" {
			t.Error(w)
		}
	}
	for _, s := range []string{"007", "-0", "", "-", "+1", "1a", "--1", " 1", "00", "-01"} {
		if a, e := Read(s); e != api.ErrForm || a.Sign != 0 {
			t.Errorf("%q", s)
		}
	}
	full := new(standard.Int).Lsh(standard.NewInt(1), 1200)
	if _, e := Read(full.String()); e != api.ErrFull {
		t.Error("full")
	}
	if _, e := Read("-" + full.String() + "00"); e != api.ErrFull {
		t.Error("full")
	}
	if a, e := Read(full.Sub(full, standard.NewInt(1)).String()); e != api.OK || !Same(a, most()) {
		t.Error("most")
	}
}

func TestP4_4Fresh(t *testing.T) {
	a := Of(5)
	for _, b := range []api.Big{Neg(a), first(Add(a, Of(0))), first(Add(Of(0), a)), first(Sub(a, Of(0))), first(Gcd(a, Of(0)))} {
		b.Digits[0] = 9
	}
	_, m, _ := Div(a, Of(100))
	m.Digits[0] = 9
	if a.Digits[0] != 5 {
		t.Error("shared")
	}
}

func first(a api.Big, _ api.Errno) api.Big { return a }

func TestP4_5Ring(t *testing.T) {
	r := rand.New(rand.NewSource(3))
	for range 500 {
		a, b, c := random(r), random(r), random(r)
		ab, e := Add(a, b)
		if ba, e2 := Add(b, a); !Same(ab, ba) || e != e2 {
			t.Fatal("add")
		}
		d, e := Sub(a, b)
		if e == api.OK {
			if back, _ := Add(d, b); !Same(back, a) {
				t.Fatal("undo")
			}
			if Compare(a, b) != d.Sign {
				t.Fatal("order")
			}
		}
		p, e := Mul(ab, c)
		x, e1 := Mul(a, c)
		y, e2 := Mul(b, c)
		if s, e3 := Add(x, y); e+e1+e2+e3 == api.OK && !Same(s, p) {
			t.Fatal("distributive")
		}
	}
}

func TestP4_6Division(t *testing.T) {
	r := rand.New(rand.NewSource(4))
	for range 1000 {
		a, b := random(r), random(r)
		g, _ := Gcd(a, b)
		h, _ := Gcd(b, Neg(a))
		if !Same(g, h) {
			t.Fatal("gcd")
		}
		if a.Sign != 0 {
			_, m, _ := Div(b, a)
			if k, _ := Gcd(a, m); !Same(g, k) {
				t.Fatal("gcd of the remainder")
			}
		}
		if b.Sign == 0 {
			continue
		}
		q, m, _ := Div(a, b)
		p, e := Mul(q, b)
		if s, e2 := Add(p, m); e == api.OK && e2 == api.OK && !Same(s, a) {
			t.Fatal("quotient")
		}
		if m.Sign != 0 && m.Sign != b.Sign || compare(m.Digits, b.Digits) >= 0 {
			t.Fatal("remainder")
		}
	}
}

func TestP4_7ReadText(t *testing.T) {
	r := rand.New(rand.NewSource(5))
	for range 1000 {
		a := random(r)
		if b, e := Read(Text(a)); e != api.OK || !Same(a, b) {
			t.Fatal(Text(a))
		}
		x, y := r.Intn(1<<31)-1<<30, r.Intn(1<<31)-1<<30
		p, _ := Mul(Of(x), Of(y))
		s, _ := Add(Of(x), Of(y))
		if n, ok := Int(p); n != x*y || !ok {
			t.Fatal(x, y)
		}
		if n, ok := Int(s); n != x+y || !ok {
			t.Fatal(x, y)
		}
	}
}

func BenchmarkGcd(b *testing.B) {
	r := rand.New(rand.NewSource(6))
	x, y := most(), most()
	for i := range x.Digits {
		x.Digits[i], y.Digits[i] = r.Intn(base-1)+1, r.Intn(base-1)+1
	}
	for range b.N {
		Gcd(x, y)
	}
}
