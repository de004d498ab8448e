package units_test

import (
	"math/rand"
	"slices"
	"strings"
	"testing"

	"consol/api"
	"consol/syntax"
	"consol/units"
)

func exp(s string) api.Exp {
	e, at, no := syntax.ParseExp(s)
	if no != api.OK {
		panic(s[at:])
	}
	return e
}

func lets(pairs ...string) api.Indenture {
	var x api.Indenture
	for i := 0; i < len(pairs); i += 2 {
		x.Lets = append(x.Lets, api.Let{Name: pairs[i], Body: exp(pairs[i+1])})
	}
	return x
}

func TestP13_1Of(t *testing.T) {
	x := lets("margin", "20 mille", "bad", "1 + true", "later", "bad", "twice", "1", "twice", "1 coins", "flag", "ever 3 ( true )")
	for s, want := range map[string]int{
		"fact profit * margin": api.UnMoney, "margin * fact profit": api.UnMoney, "rate alpha + margin": api.UnRate, "fact debt / fact profit < 4": api.UnBool, "3 days / 2 days": api.UnCount, "3 days / 2": api.UnDays, "rate a / rate b": api.UnCount, "2 * 3": api.UnCount,
		"2 * 3 days": api.UnDays, "true == false": api.UnBool, "if true then 1 coins else fact a": api.UnMoney, "not flag and ever 3 ( flag ) or soon 2 ( long 3 ( true ) )": api.UnBool, "twice": api.UnCount, "max ( 1 days , 2 days )": api.UnDays, "4 / 2": api.UnCount, "if true then true else false": api.UnBool, "true": api.UnBool,
	} {
		if u, place, e := units.Of(x, exp(s)); u != want || len(place) != 0 || e != api.OK {
			t.Error(s, u, place, e)
		}
	}
	for s, want := range map[string]struct {
		place []int
		e     api.Errno
	}{
		"fact debt < 4": {nil, api.ErrUnit}, "1 + min ( margin , other )": {[]int{1, 1}, api.ErrScope}, "bad": {nil, api.ErrScope}, "1 + later": {[]int{1}, api.ErrScope}, "true + true": {nil, api.ErrUnit}, "margin * margin": {nil, api.ErrUnit}, "true * 1": {nil, api.ErrUnit}, "1 * true": {nil, api.ErrUnit},
		"true / 1": {nil, api.ErrUnit}, "1 / 1 days": {nil, api.ErrUnit}, "true / true": {nil, api.ErrUnit}, "true < false": {nil, api.ErrUnit}, "1 == 1 coins": {nil, api.ErrUnit}, "not 1": {nil, api.ErrUnit}, "true and 1": {nil, api.ErrUnit}, "if 1 then 1 else 1": {nil, api.ErrUnit}, "if true then 1 else true": {nil, api.ErrUnit},
		"ever 2 ( 1 )": {nil, api.ErrUnit}, "if not 1 then other else 1 + true": {[]int{0}, api.ErrUnit}, "3 days * 2 days": {nil, api.ErrUnit}, "max ( 1 days , 2 )": {nil, api.ErrUnit}, "1 coins * 1 days": {nil, api.ErrUnit},
	} {
		if u, place, e := units.Of(x, exp(s)); u != 0 || !slices.Equal(place, want.place) || e != want.e {
			t.Error(s, u, place, e)
		}
	}
}

func TestP13_1Arguments(t *testing.T) {
	if _, _, e := units.Of(api.Indenture{}, api.Exp{Op: 99}); e != api.ErrArg {
		t.Error("expression")
	}
	if _, _, e := units.Of(api.Indenture{Lets: []api.Let{{Body: api.Exp{Op: 99}}}}, exp("1")); e != api.ErrArg {
		t.Error("let")
	}
	x := api.Indenture{Lets: slices.Repeat([]api.Let{{Name: "no name", Body: exp("1")}}, 20)}
	if _, _, e := units.Of(x, exp("1")); e != api.OK {
		t.Error("20 lets", e)
	}
	x.Lets = append(x.Lets, x.Lets[0])
	if _, _, e := units.Of(x, exp("1")); e != api.ErrArg {
		t.Error("21 lets")
	}
	if u, _, e := units.Of(lets("a", "b", "b", "1"), exp("a")); u != 0 || e != api.ErrScope {
		t.Error("definitions after it")
	}
}

func indenture(lets, coupon, covenants string) api.Indenture {
	x, at, e := syntax.Parse("issue a of b ; face 1000 ; from 2000 - 1 - 15 to 2010 - 1 - 15 every 6 months ; count thirty ; adjust next ; record 2 ; rank 1 ; " + lets + " coupon " + coupon + " ; cap 100 ; " + covenants + " majority 667 ; fast 250 ;")
	if e != api.OK {
		panic(at)
	}
	return x
}

func TestP13_2Check(t *testing.T) {
	for _, c := range []struct {
		lets, coupon, covenants string
		want                    api.Errno
	}{
		{"let m = 2 mille ;", "m", "covenant c must m < 3 mille grace 1 ;", api.OK},
		{"", "5 mille", "", api.OK},
		{"let m = ever 3 ( 1 ) ;", "1", "", api.ErrScope},
		{"let m = n ; let n = 1 ;", "1", "", api.ErrScope},
		{"let m = 1 + true ; let n = q ;", "1 mille", "", api.ErrUnit},
		{"", "if soon 3 ( true ) then 1 mille else 2 mille", "", api.ErrScope},
		{"", "q", "", api.ErrScope}, {"", "1", "", api.ErrUnit}, {"", "1 + true", "", api.ErrUnit},
		{"", "1 mille", "covenant c must 1 grace 1 ;", api.ErrUnit}, {"", "1 mille", "covenant c must q grace 1 ;", api.ErrScope},
		{"", "1 mille", "covenant c must long 3 ( true ) grace 1 ; covenant d must not 1 grace 1 ;", api.ErrUnit},
		{"", "1 mille", "covenant c must long 3 ( true ) grace 1 ;", api.OK},
	} {
		if e := units.Check(indenture(c.lets, c.coupon, c.covenants)); e != c.want {
			t.Error(c, e)
		}
	}
	if units.Check(api.Indenture{}) != api.ErrArg {
		t.Error("arg")
	}
}

func TestP13_3Fresh(t *testing.T) {
	_, a, _ := units.Of(api.Indenture{}, exp("1 + ( 2 + x )"))
	_, b, _ := units.Of(api.Indenture{}, exp("1 + ( 2 + x )"))
	a[0] = 7
	if b[0] != 1 {
		t.Error("shared")
	}
}

func at(e api.Exp, place []int) api.Exp {
	for _, i := range place {
		e = e.Args[i]
	}
	return e
}

func random(r *rand.Rand, n int) string {
	if n == 0 {
		return []string{"1", "2 coins", "true", "x", "m", "3 mille"}[r.Intn(6)]
	}
	ops := []string{"+", "*", "and", "==", "<", "/"}
	return "( " + random(r, n-1) + " " + ops[r.Intn(6)] + " " + random(r, n-1) + " )"
}

func TestP13_4Reason(t *testing.T) {
	r := rand.New(rand.NewSource(1))
	x := lets("m", "5 mille")
	for range 1000 {
		e := exp(random(r, 3))
		_, place, no := units.Of(x, e)
		if no == api.OK {
			continue
		}
		inner := at(e, place)
		if _, p, again := units.Of(x, inner); len(p) != 0 || again != no {
			t.Fatal(place)
		}
		for _, a := range inner.Args {
			if _, _, no := units.Of(x, a); no != api.OK {
				t.Fatal("an operand has no unit")
			}
		}
		for k := range place {
			whole := at(e, place[:k])
			for i := range place[k] {
				if _, _, no := units.Of(x, whole.Args[i]); no != api.OK {
					t.Fatal("an earlier part has no unit")
				}
			}
		}
	}
}

func TestP13_5Replace(t *testing.T) {
	x := lets("m", "5 mille + rate z")
	for _, s := range []string{"# * fact a", "# < 3 mille", "# + true", "if true then # else 1 mille"} {
		u, p, e := units.Of(x, exp(strings.ReplaceAll(s, "#", "m")))
		for _, part := range []string{"( 5 mille + rate z )", "7 mille"} {
			v, q, f := units.Of(x, exp(strings.ReplaceAll(s, "#", part)))
			if u != v || !slices.Equal(p, q) || e != f {
				t.Error(s, part)
			}
		}
	}
}

func TestP13_6Accepted(t *testing.T) {
	x := indenture("let m = 2 mille ; let n = m * 3 ;", "n", "covenant c must true grace 1 ; covenant d must m < n grace 1 ;")
	if units.Check(x) != api.OK {
		t.Fatal("refused")
	}
	if u, _, _ := units.Of(x, x.Coupon); u != api.UnRate {
		t.Error("coupon")
	}
	for i := range x.Covenants {
		y := x
		y.Covenants = x.Covenants[:i]
		if units.Check(y) != api.OK {
			t.Error("fewer covenants")
		}
	}
}

func TestP13_1Nothing(t *testing.T) {
	for i, c := range []struct {
		x api.Indenture
		e api.Exp
	}{{api.Indenture{}, api.Exp{Op: 99}}, {api.Indenture{Lets: []api.Let{{Body: api.Exp{Op: 99}}}}, exp("1 mille")}, {api.Indenture{Lets: make([]api.Let, 21)}, exp("1 mille")}} {
		if u, place, e := units.Of(c.x, c.e); u != 0 || len(place) != 0 || e != api.ErrArg {
			t.Error(i, u, place, e)
		}
	}
}
