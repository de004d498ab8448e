package eval_test

import (
	"slices"
	"strings"
	"testing"

	"consol/api"
	"consol/big"
	"consol/eval"
	"consol/frac"
	"consol/syntax"
)

func exp(s string) api.Exp {
	e, at, no := syntax.ParseExp(s)
	if no != api.OK {
		panic(s[at:])
	}
	return e
}

func lets(pairs ...string) api.Indenture {
	var x api.Indenture
	for i := 0; i < len(pairs); i += 2 {
		x.Lets = append(x.Lets, api.Let{Name: pairs[i], Body: exp(pairs[i+1])})
	}
	return x
}

func f(p, q int) api.Frac {
	x, _ := frac.Of(p, q)
	return x
}

func env() eval.Env {
	return eval.Env{Names: []string{"debt", "cash", "debt"}, Values: []api.Frac{f(300, 1), f(100, 1), f(7, 1)}, Issues: []string{"a"}, Rates: []api.Frac{f(1, 20)}}
}

func valueText(x api.Indenture, s string) (string, api.Errno) {
	v, e := eval.Value(x, exp(s), env())
	return frac.Text(v), e
}

func TestP14_1Value(t *testing.T) {
	x := lets("lever", "fact debt / fact cash", "self", "self", "lever", "1", "zero", "1 / 0")
	for s, want := range map[string]string{
		"lever < 4": "1/1", "rate a + 25 mille": "3/40", "if false then 1 / 0 else max ( lever , 2 )": "3/1", "5 coins - 7 days": "-2/1", "true": "1/1", "min ( 1 , 2 mille )": "1/500", "min ( 2 , 1 )": "1/1", "max ( 2 , 1 )": "2/1", "3 * 4 / 8": "3/2",
		"1 == 2": "0/1", "2 == 2": "1/1", "2 < 2": "0/1", "not 5": "0/1", "not 0": "1/1", "0 and 1 / 0": "0/1", "5 or 1 / 0": "1/1", "7 and 9": "1/1", "7 and 0": "0/1", "0 or 9": "1/1", "0 or 0": "0/1", "if 5 then 6 else zero": "6/1", "fact debt": "300/1",
	} {
		if got, e := valueText(x, s); got != want || e != api.OK {
			t.Error(s, got, e)
		}
	}
	for s, want := range map[string]api.Errno{"if cash < 0 then 1 else lever": api.ErrScope, "fact nowhere": api.ErrScope, "rate b": api.ErrScope, "self": api.ErrScope, "1 / 0": api.ErrDivide, "zero": api.ErrDivide, "zero + nowhere": api.ErrDivide, "nowhere + zero": api.ErrScope, "1 and zero": api.ErrDivide, "ever 3 ( true )": api.ErrArg, "0 * ( long 2 ( true ) )": api.ErrArg} {
		if got, e := valueText(x, s); got != "" || e != want {
			t.Error(s, got, e)
		}
	}
	n, _ := big.Read("1" + strings.Repeat("0", 300))
	huge, _ := frac.New(n, big.Of(1))
	if _, e := eval.Value(x, exp("fact h * fact h"), eval.Env{Names: []string{"h"}, Values: []api.Frac{huge}}); e != api.ErrFull {
		t.Error("full")
	}
}

func TestP14_1Arguments(t *testing.T) {
	good := exp("1")
	if _, e := eval.Value(api.Indenture{}, api.Exp{Op: 99}, eval.Env{}); e != api.ErrArg {
		t.Error("expression")
	}
	if _, e := eval.Value(lets("a", "soon 3 ( true )"), good, eval.Env{}); e != api.ErrArg {
		t.Error("soon")
	}
	if _, e := eval.Value(api.Indenture{Lets: []api.Let{{Body: api.Exp{Op: 99}}}}, good, eval.Env{}); e != api.ErrArg {
		t.Error("let")
	}
	many := api.Indenture{Lets: slices.Repeat([]api.Let{{Name: "a", Body: good}}, 21)}
	if _, e := eval.Value(many, good, eval.Env{}); e != api.ErrArg {
		t.Error("21 lets")
	}
	for i, v := range []eval.Env{{Names: []string{"a"}}, {Rates: []api.Frac{f(1, 1)}}, {Names: []string{"a"}, Values: []api.Frac{{}}}, {Issues: []string{"a"}, Rates: []api.Frac{{}}}} {
		if _, e := eval.Value(api.Indenture{}, good, v); e != api.ErrArg {
			t.Error("env", i)
		}
	}
}

func TestP14_2Fresh(t *testing.T) {
	v := env()
	got, _ := eval.Value(api.Indenture{}, exp("fact debt"), v)
	got.P.Digits[0], got.Q.Digits[0] = 9, 9
	if frac.Text(v.Values[0]) != "300/1" {
		t.Error("shared")
	}
}

func TestP14_3Names(t *testing.T) {
	x := lets("b", "rate a * 2", "c", "b + b", "d", "c / ( b - b )")
	for s, bodies := range map[string]string{"c * 3": "( rate a * 2 + rate a * 2 ) * 3", "d + 1": "( rate a * 2 + rate a * 2 ) / ( rate a * 2 - rate a * 2 ) + 1", "min ( b , c )": "min ( rate a * 2 , rate a * 2 + rate a * 2 )"} {
		a, e := valueText(x, s)
		b, g := valueText(api.Indenture{}, bodies)
		if a != b || e != g {
			t.Error(s, a, b)
		}
	}
	pairs := []string{"n0", "1 mille"}
	for i := range 19 {
		name := "n" + string(rune('0'+i))
		if i > 9 {
			name = "m" + string(rune('0'+i-10))
		}
		next := "n" + string(rune('1'+i))
		if i >= 9 {
			next = "m" + string(rune('0'+i-9))
		}
		pairs = append(pairs, next, "( "+name+" + "+name+" ) / 2 + ( "+name+" + "+name+" ) / 2")
	}
	if got, e := valueText(lets(pairs...), "m9"); got != "524288/1000" && got != "65536/125" || e != api.OK {
		t.Error(got, e)
	}
}

func TestP14_4Needless(t *testing.T) {
	x := lets("b", "1 / 0", "c", "2")
	want, _ := valueText(x, "if c < 3 then 7 else b")
	y := lets("c", "2")
	if got, _ := valueText(y, "if c < 3 then 7 else 8"); got != want || got != "7/1" {
		t.Error(got)
	}
	if a, e := eval.Value(y, exp("c"), eval.Env{}); frac.Text(a) != "2/1" || e != api.OK {
		t.Error("facts that nothing names")
	}
}

func TestP14_5Laws(t *testing.T) {
	for _, p := range [][2]string{{"3", "5"}, {"1 / 3", "( 0 - 2 )"}, {"4", "4"}} {
		for _, law := range []string{"A + B == B + A", "A * B == B * A", "min ( A , B ) + max ( A , B ) == A + B", "( if A < B then 1 else 0 ) + ( if B < A then 1 else 0 ) + ( if A == B then 1 else 0 ) == 1", "( not ( A and B ) ) == ( not A or not B )"} {
			s := strings.NewReplacer("A", p[0], "B", p[1]).Replace(law)
			if got, e := valueText(api.Indenture{}, s); got != "1/1" || e != api.OK {
				t.Error(s, got, e)
			}
		}
	}
}

func TestP14_6Truth(t *testing.T) {
	for _, s := range []string{"3 < 4", "3 == 4", "not true", "true and 3 < 4", "false or 4 < 3", "if true then false else true"} {
		if got, e := valueText(api.Indenture{}, s); got != "0/1" && got != "1/1" || e != api.OK {
			t.Error(s, got)
		}
	}
	if _, e := eval.Value(lets("m", "fact x"), exp("m"), eval.Env{}); e != api.ErrScope {
		t.Error("a fact that is not known")
	}
	if _, e := eval.Value(lets("m", "fact x"), exp("m"), eval.Env{Names: []string{"x"}, Values: []api.Frac{f(1, 1)}}); e != api.OK {
		t.Error("a fact that is known")
	}
}
