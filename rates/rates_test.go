package rates_test

import (
	"math/rand"
	"slices"
	"strconv"
	"strings"
	"testing"

	"consol/api"
	"consol/eval"
	"consol/frac"
	"consol/rates"
	"consol/syntax"
)

func issue(name, coupon string, cap int) api.Indenture {
	lets := ""
	if i := strings.Index(coupon, ";"); i >= 0 {
		lets, coupon = coupon[:i+1], coupon[i+1:]
	}
	x, at, e := syntax.Parse("issue " + name + " of z ; face 1 ; from 2000 - 1 - 1 to 2001 - 1 - 1 every 1 months ; count fixed ; adjust none ; record 0 ; rank 0 ; " + lets + " coupon " + coupon + " ; cap " + strconv.Itoa(cap) + " ; majority 1 ; fast 1 ;")
	if e != api.OK {
		panic(strconv.Itoa(at) + " " + coupon)
	}
	return x
}

// issues makes issues a, b, c .. with a cap of 100.
func issues(coupons ...string) []api.Indenture {
	var l []api.Indenture
	for i, c := range coupons {
		l = append(l, issue(string(rune('a'+i)), c, 100))
	}
	return l
}

func found(l []api.Indenture, envs ...eval.Env) (string, api.Errno) {
	if len(envs) == 0 {
		envs = make([]eval.Env, len(l))
	}
	x, e := rates.Rates(l, envs)
	var s []string
	for _, f := range x {
		s = append(s, frac.Text(f))
	}
	return strings.Join(s, " "), e
}

func TestP17_1Compile(t *testing.T) {
	for _, c := range []struct {
		coupons []string
		want    api.Errno
	}{
		{[]string{"20 mille + rate b * 1 / 2", "rate a * 1 / 2 + 5 mille", "min ( rate a , 10 mille )"}, api.OK},
		{[]string{"20 mille + rate b", "rate a + 5 mille"}, api.ErrCycle},
		{[]string{"1 mille", "1 mille", "min ( rate c , 10 mille )"}, api.ErrCycle},
		{[]string{"rate q"}, api.ErrName}, {[]string{"1"}, api.ErrUnit}, {[]string{"m"}, api.ErrScope},
		{[]string{"rate b", "rate a", "1"}, api.ErrUnit}, {[]string{"rate b - 1 mille", "rate a"}, api.ErrCycle}, {nil, api.OK},
	} {
		if e := rates.Compile(issues(c.coupons...)); e != c.want {
			t.Error(c, e)
		}
	}
	if rates.Compile(append(issues("rate q"), issues("1")...)) != api.ErrTwice || rates.Compile([]api.Indenture{{Name: "a"}}) != api.ErrArg {
		t.Error("errors")
	}
	var many []string
	for i := range 41 {
		many = append(many, "rate n"+strconv.Itoa((i+1)%41)+" / 2")
	}
	var l []api.Indenture
	for i, c := range many {
		l = append(l, issue("n"+strconv.Itoa(i), c, 1))
	}
	if e := rates.Compile(l); e != api.ErrArg {
		t.Error("a circle of 41", e)
	}
}

func TestP17_2Rates(t *testing.T) {
	if s, e := found(issues("20 mille + rate b * 1 / 2", "rate a * 1 / 2 + 5 mille", "min ( rate a , 10 mille )")); s != "3/100 1/50 1/100" || e != api.OK {
		t.Error(s, e)
	}
	if s, e := found(issues("rate b - rate c", "200 mille", "300 mille")); s != "0/1 1/10 1/10" || e != api.OK {
		t.Error("between 0 and the cap", s, e)
	}
	if s, e := found(issues("1 mille - 2 mille")); s != "0/1" || e != api.OK {
		t.Error(s)
	}
	state := func(name string, p, q int) eval.Env {
		f, _ := frac.Of(p, q)
		return eval.Env{Names: []string{name}, Values: []api.Frac{f}}
	}
	l := issues("let m = fact x / 1000 coins ; rate b / 2 + m * 2 mille + rate c", "rate a / 2", "5 mille")
	if s, e := found(l, state("x", 3000, 1), eval.Env{}, eval.Env{}); s != "11/750 11/1500 1/200" || e != api.OK {
		t.Error(s, e)
	}
	if _, e := found(l); e != api.ErrScope {
		t.Error("a fact is missing", e)
	}
	if _, e := found(l, eval.Env{}); e != api.ErrArg {
		t.Error("too few states")
	}
	if _, e := found(l, state("x", -1, 1), eval.Env{}, eval.Env{}); e != api.ErrArg {
		t.Error("a negative value")
	}
	if _, e := found(l, eval.Env{Names: []string{"x"}}, eval.Env{}, eval.Env{}); e != api.ErrArg {
		t.Error("names without values")
	}
	if _, e := found(l, eval.Env{Issues: []string{"q"}}, eval.Env{}, state("x", 1, 1)); e != api.ErrScope {
		t.Error("Issues count", e)
	}
	if _, e := found(issues("rate b"), state("x", -1, 1)); e != api.ErrName {
		t.Error("compile comes first")
	}
	if s, e := found(issues("rate a / ( fact x / 1 coins ) + 1 mille"), state("x", 0, 1)); s != "" || e != api.ErrCycle {
		t.Error(s, e)
	}
	if _, e := found(issues("rate a / 2 + 1 mille / ( fact x / 1 coins )"), state("x", 0, 1)); e != api.ErrDivide {
		t.Error("divide", e)
	}
}

func TestP17_3Fresh(t *testing.T) {
	l := issues("5 mille", "rate a")
	x, _ := rates.Rates(l, make([]eval.Env, 2))
	x[0].P.Digits[0] = 9
	if frac.Text(x[1]) != "1/200" {
		t.Error("shared")
	}
}

func random(r *rand.Rand) []api.Indenture {
	n := 1 + r.Intn(4)
	var l []string
	for range n {
		s := strconv.Itoa(r.Intn(30)) + " mille"
		for range r.Intn(3) {
			s += " + rate " + string(rune('a'+r.Intn(n))) + " / " + strconv.Itoa(1+r.Intn(4))
		}
		l = append(l, s)
	}
	return issues(l...)
}

func TestP17_4Fixed(t *testing.T) {
	r := rand.New(rand.NewSource(1))
	good := 0
	for range 300 {
		l := random(r)
		x, e := rates.Rates(l, make([]eval.Env, len(l)))
		if e != api.OK {
			continue
		}
		good++
		env := eval.Env{Rates: x}
		for _, i := range l {
			env.Issues = append(env.Issues, i.Name)
		}
		for k, i := range l {
			v, _ := eval.Value(i, i.Coupon, env)
			if most, _ := frac.Of(i.Cap, 1000); frac.Compare(most, v) < 0 {
				v = most
			}
			if frac.Compare(v, x[k]) != 0 {
				t.Fatal(k)
			}
		}
	}
	if good < 50 {
		t.Error(good)
	}
}

func TestP17_5Order(t *testing.T) {
	r := rand.New(rand.NewSource(2))
	for range 200 {
		l := random(r)
		s, e := found(l)
		m := slices.Clone(l)
		slices.Reverse(m)
		u, g := found(m)
		back := strings.Fields(u)
		slices.Reverse(back)
		if e == api.OK && (g != api.OK || s != strings.Join(back, " ")) {
			t.Fatal(s, u)
		}
	}
	l := issues("fact x / 1000 coins * 1 mille", "rate a", "4 mille")
	one, _ := frac.Of(7000, 1)
	two, _ := frac.Of(8000, 1)
	a, _ := found(l, eval.Env{Names: []string{"x"}, Values: []api.Frac{one}}, eval.Env{}, eval.Env{})
	b, _ := found(l, eval.Env{Names: []string{"x"}, Values: []api.Frac{two}}, eval.Env{}, eval.Env{})
	if a != "7/1000 7/1000 1/250" || b != "1/125 1/125 1/250" {
		t.Error(a, b)
	}
}

func TestP17_6Own(t *testing.T) {
	if rates.Compile(issues("rate a")) != api.ErrCycle || rates.Compile(issues("5 mille", "rate b", "1 mille")) != api.ErrCycle {
		t.Error("its own rate")
	}
	if s, e := found(issues("rate a / 2 + 6 mille")); s != "3/250" || e != api.OK {
		t.Error(s, e)
	}
}
