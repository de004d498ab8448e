package circle_test

import (
	"math/rand"
	"slices"
	"strings"
	"testing"

	"consol/api"
	"consol/big"
	"consol/circle"
	"consol/frac"
	"consol/syntax"
)

func f(p, q int) api.Frac {
	x, _ := frac.Of(p, q)
	return x
}

func text(l []api.Frac) string {
	var s []string
	for _, x := range l {
		s = append(s, strings.TrimSuffix(frac.Text(x), "/1"))
	}
	return strings.Join(s, " ")
}

func indenture(lets string) api.Indenture {
	x, at, e := syntax.Parse("issue a of b ; face 1 ; from 2000 - 1 - 1 to 2001 - 1 - 1 every 1 months ; count fixed ; adjust none ; record 0 ; rank 0 ; " + lets + " coupon 1 mille ; cap 1 ; majority 1 ; fast 1 ;")
	if e != api.OK {
		panic(at)
	}
	return x
}

func exp(s string) api.Exp {
	e, at, no := syntax.ParseExp(s)
	if no != api.OK {
		panic(s[at:])
	}
	return e
}

// linear returns weights, parts and rests as text.
func form(lets, s string, names ...string) (string, api.Errno) {
	w, p, r, e := circle.Linear(indenture(lets), exp(s), names)
	var rests []string
	for _, x := range r {
		t, _ := syntax.PrintExp(x)
		rests = append(rests, t)
	}
	return text(w) + " | " + text(p) + " | " + strings.Join(rests, " , "), e
}

// same reports whether lists of lists are equal; nil and empty ones are.
func same(a, b [][]int) bool { return slices.EqualFunc(a, b, slices.Equal[[]int]) }

func TestP16_1Linear(t *testing.T) {
	for s, want := range map[string]string{
		"base + rate c / 2 + rate d * 3":                      "1/2 3 | 1 | base",
		"rate c + rate c":                                     "2 0 |  | ",
		"two * ( rate c + fact a ) / ( two + 1 )":             "2/3 0 | 2/3 | fact a",
		"0 * rate c + 4":                                      "0 0 | 1 | 4",
		"half + rate d":                                       "1/2 1 | 1/2 | 7 mille",
		"max ( 0 - 1 , fact a ) + rate c":                     "1 0 | 1 | max ( 0 - 1 , fact a )",
		"( if true then 1 else rate z ) + min ( 1 , rate q )": "0 0 | 1 | ( if true then 1 else rate z ) + min ( 1 , rate q )",
	} {
		if got, e := form("let base = 20 mille ; let two = 2 ; let half = ( rate c + 7 mille ) / two ;", s, "c", "d"); got != want || e != api.OK {
			t.Error(s, got, e)
		}
	}
	for s, want := range map[string]api.Errno{
		"1 - rate c": api.ErrCycle, "rate c * rate c": api.ErrCycle, "fact a - fact b + rate c": api.ErrCycle, "rate c / 0": api.ErrCycle, "rate c / fact a": api.ErrCycle, "fact a * rate c": api.ErrCycle, "max ( rate c , 1 )": api.ErrCycle, "if true then rate c else 1": api.ErrCycle,
		"rate c * 2 mille": api.ErrCycle, "rate c * ( 1 / 0 )": api.ErrCycle, "rate c * ( 2 - 1 )": api.ErrCycle, "min ( rate c , 1 )": api.ErrCycle, "true": api.OK, "1 / rate c": api.ErrCycle, "nowhere": api.ErrScope, "0 - 1": api.ErrCycle, "max ( 0 - 1 , 0 - 2 )": api.ErrCycle, "if true then 0 - 1 else 1": api.ErrCycle, "not true": api.ErrCycle,
	} {
		if got, e := form("", s, "c"); e != want || e != api.OK && got != " |  | " {
			t.Error(s, got, e)
		}
	}
}

func TestP16_1Arguments(t *testing.T) {
	x := indenture("")
	good := exp("1")
	if _, _, _, e := circle.Linear(api.Indenture{}, good, nil); e != api.ErrArg {
		t.Error("indenture")
	}
	if _, _, _, e := circle.Linear(x, api.Exp{Op: 99}, nil); e != api.ErrArg {
		t.Error("expression")
	}
	var many []string
	for i := range 41 {
		many = append(many, "n"+string(rune('a'+i%26))+string(rune('a'+i/26)))
	}
	if _, _, _, e := circle.Linear(x, good, many[:40]); e != api.OK {
		t.Error("40 names", e)
	}
	for _, names := range [][]string{many, {"a", "a"}, {"1"}, {"let"}} {
		if _, _, _, e := circle.Linear(x, good, names); e != api.ErrArg {
			t.Error(names)
		}
	}
	if _, e := form("let m = n ; let n = 1 ;", "1"); e != api.ErrScope {
		t.Error("a body with a later name", e)
	}
	lets := "let n0 = rate c ;"
	for i := range 9 {
		a := "n" + string(rune('0'+i))
		lets += " let n" + string(rune('1'+i)) + " = " + a + " + " + a + " ;"
	}
	if got, e := form(lets, "n7", "c"); got != "128 |  | " || e != api.OK {
		t.Error(got, e)
	}
	if _, e := form(lets, "n9", "c"); e != api.ErrFull {
		t.Error("1000 expressions", e)
	}
	// n1 has 5 looks: itself, the sum, and each n0 with its body; n8 would have 1021, n7 509.
	if _, e := form(lets, "n7 + 1 + 1", "c"); e != api.OK {
		t.Error(e)
	}
	powers := "let p0 = 1000000000000000 ; let p1 = p0 * p0 * p0 * p0 ; let p2 = p1 * p1 * p1 * p1 ;"
	if _, e := form(powers, "p2 * ( p2 * rate c )", "c"); e != api.ErrFull {
		t.Error("a factor", e)
	}
	if _, e := form(powers, "p2 * p2 * rate c", "c"); e != api.ErrCycle {
		t.Error("no number", e)
	}
}

func links(l ...int) []api.Link {
	var out []api.Link
	for i := 0; i < len(l); i += 4 {
		out = append(out, api.Link{From: l[i], To: l[i+1], Weight: f(l[i+2], l[i+3])})
	}
	return out
}

func TestP16_2Certify(t *testing.T) {
	z, g, e := circle.Certify(links(0, 1, 1, 2, 1, 0, 1, 1), 2)
	if text(z) != "4 3" || len(g) != 0 || e != api.OK {
		t.Error(text(z), text(g), e)
	}
	z, g, e = circle.Certify(links(0, 1, 1, 1, 1, 0, 1, 1), 2)
	if len(z) != 0 || text(g) != "1 1" || e != api.ErrCycle {
		t.Error(text(z), text(g), e)
	}
	if z, g, e := circle.Certify(nil, 0); len(z) != 0 || len(g) != 0 || e != api.OK {
		t.Error("none")
	}
	for i, l := range [][]api.Link{links(0, 2, 1, 1), links(-1, 0, 1, 1), links(0, 0, -1, 1), {{}}, make([]api.Link, 401)} {
		if _, _, e := circle.Certify(l, 2); e != api.ErrArg {
			t.Error(i, e)
		}
	}
	if _, _, e := circle.Certify(nil, 41); e != api.ErrArg {
		t.Error("41")
	}
	n, _ := big.Read("1" + strings.Repeat("0", 200))
	huge, _ := frac.New(n, big.Of(7))
	if _, _, e := circle.Certify([]api.Link{{From: 0, To: 1, Weight: huge}, {From: 1, To: 0, Weight: huge}}, 2); e != api.ErrCycle {
		t.Error("huge weights", e)
	}
	tiny, _ := frac.Div(f(1, 1), huge)
	if _, _, e := circle.Certify([]api.Link{{From: 0, To: 1, Weight: tiny}, {From: 1, To: 0, Weight: tiny}}, 2); e != api.ErrFull {
		t.Error("full", e)
	}
}

func TestP16_3Check(t *testing.T) {
	l := links(0, 1, 1, 2, 1, 0, 1, 1)
	for i, c := range []struct {
		z    []api.Frac
		want bool
	}{{[]api.Frac{f(4, 1), f(3, 1)}, true}, {[]api.Frac{f(3, 1), f(3, 1)}, false}, {[]api.Frac{f(7, 2), f(3, 1)}, true}, {[]api.Frac{f(0, 1), f(0, 1)}, false}, {[]api.Frac{f(-3, 1), f(-4, 1)}, false}, {nil, false}, {[]api.Frac{f(4, 1), {}}, false}} {
		if circle.Check(l, 2, c.z) != c.want {
			t.Error(i)
		}
	}
	if !circle.Check(nil, 0, nil) || circle.Check(links(0, 1, 1, 1), 1, []api.Frac{f(1, 1)}) {
		t.Error("links")
	}
}

func loop(caps, bases string, l []api.Link) api.Loop {
	var x api.Loop
	for _, s := range strings.Fields(caps) {
		a, _ := frac.Read(s + "/1")
		x.Cap = append(x.Cap, a)
	}
	for _, s := range strings.Fields(bases) {
		a, _ := frac.Read(s + "/1")
		x.Base = append(x.Base, a)
	}
	x.Links = l
	return x
}

func TestP16_4Solve(t *testing.T) {
	x, rounds, e := circle.Solve(loop("10 10", "1 2", links(0, 1, 1, 2, 1, 0, 1, 1)))
	if text(x) != "6 5" || !same(rounds, [][]int{{1}, {0}}) || e != api.OK {
		t.Error(text(x), rounds, e)
	}
	if x, rounds, e := circle.Solve(loop("3 3", "5 5", nil)); text(x) != "3 3" || len(rounds) != 0 || e != api.OK {
		t.Error("caps")
	}
	if x, rounds, e := circle.Solve(api.Loop{}); len(x) != 0 || len(rounds) != 0 || e != api.OK {
		t.Error("none")
	}
	for i, l := range []api.Loop{loop("1", "", nil), loop("-1", "1", nil), loop("1", "-1", nil), loop("1", "1", links(0, 1, 1, 1)), {Cap: []api.Frac{{}}, Base: []api.Frac{f(1, 1)}}} {
		if x, r, e := circle.Solve(l); len(x) != 0 || len(r) != 0 || e != api.ErrArg || circle.Holds(l, make([]api.Frac, 1)) {
			t.Error(i)
		}
		if _, _, e := circle.Least(l); e != api.ErrArg {
			t.Error(i)
		}
	}
	n, _ := big.Read("1" + strings.Repeat("0", 350))
	huge, _ := frac.New(n, big.Of(1))
	l := loop("0", "1", links(0, 0, 1, 1))
	l.Cap[0], l.Links[0].Weight = huge, huge
	if x, _, e := circle.Solve(l); len(x) != 0 || e != api.ErrFull {
		t.Error("full")
	}
}

func TestP16_5Least(t *testing.T) {
	both := links(0, 1, 1, 1, 1, 0, 1, 1)
	if x, _, _ := circle.Least(loop("1 1", "0 0", both)); text(x) != "0 0" {
		t.Error(text(x))
	}
	if x, _, _ := circle.Solve(loop("1 1", "0 0", both)); text(x) != "1 1" {
		t.Error(text(x))
	}
	if x, _, _ := circle.Least(loop("1 1 5", "0 0 1", append(both, links(2, 0, 1, 2)...))); text(x) != "1 1 1" {
		t.Error(text(x))
	}
	if x, _, _ := circle.Least(loop("1 1 0", "0 0 1", append(both, links(2, 0, 1, 2)...))); text(x) != "0 0 0" {
		t.Error("what has no cap feeds nobody")
	}
	if x, _, _ := circle.Least(loop("1 1 5", "0 0 1", append(both, links(2, 0, 0, 2)...))); text(x) != "0 0 1" {
		t.Error("a weight of 0 feeds nobody")
	}
}

func TestP16_6Holds(t *testing.T) {
	l := loop("10 10", "1 2", links(0, 1, 1, 2, 1, 0, 1, 1))
	if !circle.Holds(l, []api.Frac{f(6, 1), f(5, 1)}) || circle.Holds(l, []api.Frac{f(6, 1), f(4, 1)}) || circle.Holds(l, []api.Frac{f(6, 1)}) || circle.Holds(l, []api.Frac{f(6, 1), {}}) {
		t.Error("holds")
	}
}

func TestP16_7Fresh(t *testing.T) {
	l := loop("3", "5", nil)
	x, _, _ := circle.Solve(l)
	x[0].P.Digits[0] = 9
	if text(l.Cap) != "3" {
		t.Error("shared")
	}
	_, p, r, _ := circle.Linear(indenture(""), exp("fact a + rate c + fact b"), []string{"c"})
	p[0].P.Digits[0] = 9
	r[0].S = "x"
	if text(p[1:]) != "1" || r[1].S != "b" {
		t.Error("shared parts")
	}
}

func random(r *rand.Rand) api.Loop {
	n := 1 + r.Intn(4)
	var l api.Loop
	for range n {
		l.Cap = append(l.Cap, f(r.Intn(8), 1))
		l.Base = append(l.Base, f(r.Intn(3)*r.Intn(2), 2))
	}
	for range r.Intn(7) {
		l.Links = append(l.Links, api.Link{From: r.Intn(n), To: r.Intn(n), Weight: f(r.Intn(4), 1+r.Intn(4))})
	}
	return l
}

func TestP16_8Extremes(t *testing.T) {
	r := rand.New(rand.NewSource(1))
	for range 500 {
		l := random(r)
		high, _, e := circle.Solve(l)
		low, _, e2 := circle.Least(l)
		if e != api.OK || e2 != api.OK || !circle.Holds(l, high) || !circle.Holds(l, low) {
			t.Fatal(e, e2)
		}
		// From below and from above, steps of the system lead to the least and to the greatest solution.
		x := make([]float64, len(l.Cap))
		y := make([]float64, len(l.Cap))
		value := func(a api.Frac) float64 { p, _ := big.Int(a.P); q, _ := big.Int(a.Q); return float64(p) / float64(q) }
		for i, c := range l.Cap {
			y[i] = value(c)
		}
		for range 3000 {
			for _, z := range [][]float64{x, y} {
				next := make([]float64, len(z))
				for i := range z {
					next[i] = value(l.Base[i])
				}
				for _, k := range l.Links {
					next[k.To] += value(k.Weight) * z[k.From]
				}
				for i := range z {
					z[i] = min(next[i], value(l.Cap[i]))
				}
			}
		}
		for i := range x {
			if d := value(low[i]) - x[i]; d > 0.01 || d < -0.01 {
				t.Fatal("least", l, text(low), x)
			}
			if d := value(high[i]) - y[i]; d > 0.01 || d < -0.01 {
				t.Fatal("greatest", l, text(high), y)
			}
		}
	}
}

func TestP16_9Certificates(t *testing.T) {
	r := rand.New(rand.NewSource(2))
	yes, no := 0, 0
	for range 500 {
		l := random(r)
		z, g, e := circle.Certify(l.Links, len(l.Cap))
		high, _, _ := circle.Solve(l)
		low, _, _ := circle.Least(l)
		switch e {
		case api.OK:
			yes++
			if !circle.Check(l.Links, len(l.Cap), z) || text(high) != text(low) {
				t.Fatal("certificate")
			}
		case api.ErrCycle:
			no++
			one := api.Loop{Links: l.Links}
			for range l.Cap {
				one.Cap = append(one.Cap, f(1, 1))
				one.Base = append(one.Base, f(0, 1))
			}
			if !circle.Holds(one, g) || !circle.Holds(one, one.Base) || circle.Check(l.Links, len(l.Cap), g) {
				t.Fatal("second solution")
			}
		default:
			t.Fatal(e)
		}
	}
	if yes == 0 || no == 0 {
		t.Error(yes, no)
	}
}

func TestP16_10Value(t *testing.T) {
	got, e := form("let h = rate c * 2 ;", "( h + 3 mille ) / 4 + 2 * rate d + h", "c", "d")
	if got != "5/2 2 | 1/4 | 3 mille" || e != api.OK {
		t.Error(got, e)
	}
}

func TestP16_11Rounds(t *testing.T) {
	r := rand.New(rand.NewSource(3))
	for range 500 {
		l := random(r)
		x, rounds, _ := circle.Solve(l)
		left := map[int]bool{}
		for _, round := range rounds {
			before := -1
			for _, i := range round {
				if left[i] || i <= before || frac.Compare(x[i], l.Cap[i]) >= 0 {
					t.Fatal(rounds)
				}
				left[i], before = true, i
			}
		}
		if len(rounds) > len(x) {
			t.Fatal("rounds")
		}
		for i := range x {
			if !left[i] && frac.Compare(x[i], l.Cap[i]) != 0 {
				t.Fatal("cap")
			}
		}
	}
}

func TestP16_1Looks(t *testing.T) {
	// A name counts with its body: n0 takes 2 looks, n1 6, n2 14, and so on up to n7 with 510.
	lets := "let n0 = rate c ;"
	for i := range 8 {
		a := "n" + string(rune('0'+i))
		lets += " let n" + string(rune('1'+i)) + " = " + a + " + " + a + " ;"
	}
	for s, want := range map[string]api.Errno{
		// 982 for the names, 5 for the sums, and 13 or 14 for the last operand.
		"n7 + ( n6 + ( n5 + ( n4 + ( n3 + ( rate c + rate c + rate c + rate c + rate c + rate c + rate c ) ) ) ) )": api.OK,
		"n7 + ( n6 + ( n5 + ( n4 + ( n3 + n2 ) ) ) )":                                                               api.ErrFull,
	} {
		if got, e := form(lets, s, "c"); e != want {
			t.Error(s, got, e)
		}
	}
}

func TestP16_2Limits(t *testing.T) {
	var l []api.Link
	for i := range 400 {
		l = append(l, api.Link{From: i % 40, To: (i + 1) % 40, Weight: f(0, 1)})
	}
	if z, _, e := circle.Certify(l, 40); e != api.OK || len(z) != 40 || !circle.Check(l, 40, z) {
		t.Error("40 elements, 400 links", e)
	}
	for i, bad := range []api.Link{{From: 2, To: 0, Weight: f(1, 1)}, {From: 0, To: 2, Weight: f(1, 1)}, {From: -1, To: 0, Weight: f(1, 1)}, {From: 0, To: -1, Weight: f(1, 1)}} {
		if _, _, e := circle.Certify([]api.Link{bad}, 2); e != api.ErrArg {
			t.Error(i)
		}
	}
	for s, want := range map[string]api.Errno{"rate c + fact a * ( 0 - 1 )": api.ErrCycle, "rate c + ( 0 - 1 ) * fact a": api.ErrCycle, "rate c + fact a / ( 0 - 1 )": api.ErrCycle, "rate c + min ( 1 , 0 - 1 )": api.ErrCycle, "rate c + max ( 1 , 0 - 1 )": api.OK, "rate c + max ( 0 - 1 , 1 )": api.OK, "rate c + ( if true then 1 else 0 - 1 )": api.ErrCycle, "rate c + ( 1 < 2 )": api.ErrCycle} {
		if _, e := form("", s, "c"); e != want {
			t.Error(s, e)
		}
	}
	great := "let p0 = 1000000000000000 ; let p1 = p0 * p0 * p0 * p0 ; let p2 = p1 * p1 * p1 ; let p3 = p2 * p1 ;"
	if _, e := form(great, "rate c / p3 + rate c / ( p3 + 1 )", "c"); e != api.ErrFull {
		t.Error("a weight that cannot be calculated", e)
	}
}
