package syntax_test

import (
	"math/rand"
	"slices"
	"strconv"
	"strings"
	"testing"

	"consol/api"
	"consol/date"
	"consol/syntax"
)

const example = "issue a of b ; face 1000 ; from 2000 - 1 - 15 to 2010 - 1 - 15 every 6 months ; count thirty ; adjust next ; record 2 ; rank 1 ; let base = 20 mille ; coupon base + rate c / 2 ; cap 100 ; covenant cover must fact debt < 3 * fact ebit grace 30 ; favour c ; cross 5000 ; call 2005 - 1 - 15 at 1010 ; majority 667 ; fast 250 ;"

func pairOf(op int, a, b api.Exp) api.Exp { return api.Exp{Op: op, Args: []api.Exp{a, b}} }

func deep(n int) string { return strings.Repeat("not ", n-1) + "true" }

// replaced parses the example with a part replaced.
func replaced(old, with string) (int, api.Errno) {
	_, at, e := syntax.Parse(strings.Replace(example, old, with, 1))
	return at, e
}

func TestP12_1Parse(t *testing.T) {
	x, at, e := syntax.Parse(example)
	if at != 0 || e != api.OK || x.Name != "a" || x.Issuer != "b" || x.Face != 1000 || x.Every != 6 || x.Count != api.CoThirty || x.Adjust != api.AdNext || x.Record != 2 || x.Rank != 1 || x.Cap != 100 || x.Cross != 5000 || x.Notice != 0 || x.Sink != 0 || x.Majority != 667 || x.Fast != 250 {
		t.Fatal(x, at, e)
	}
	from, _ := date.Of(2000, 1, 15)
	call, _ := date.Of(2005, 1, 15)
	if x.From != from || len(x.Calls) != 1 || x.Calls[0] != (api.Call{From: call, Price: 1010}) || !slices.Equal(x.Favour, []string{"c"}) || x.Covenants[0].Grace != 30 || x.Lets[0].Name != "base" {
		t.Error(x)
	}
	y, _, _ := syntax.Parse(strings.NewReplacer("thirty", "actual", "next", "before", " favour c ;", "", " cross 5000 ;", "", "majority", "notice 7 ; sink 8 ; majority").Replace(example))
	if y.Count != api.CoActual || y.Adjust != api.AdBefore || len(y.Favour) != 0 || y.Cross != -1 || y.Notice != 7 || y.Sink != 8 {
		t.Error(y)
	}
}

func TestP12_1First(t *testing.T) {
	for s, want := range map[string]struct {
		at int
		e  api.Errno
	}{
		"issue a of b ; face 0 ;":                       {20, api.ErrRange},
		"issue a of b ; face 1 ; from 2001 - 2 - 29 to": {40, api.ErrDate},
		"issue a of b ; face 1 ; from 1800 - 2 - 2 to":  {40, api.ErrDate},
		"issue a of b ; face 1 ; from 2001 - 2 - x":     {40, api.ErrSyntax},
		"":                          {0, api.ErrSyntax},
		"issue":                     {5, api.ErrSyntax},
		"issue let of b":            {6, api.ErrSyntax},
		"issue a b":                 {8, api.ErrSyntax},
		"issue a of b ; face coins": {20, api.ErrSyntax},
		"issue a of b ; face 1000000000000000 ; from x": {44, api.ErrSyntax},
		"issue ? face 007":                                  {6, api.ErrToken},
		example + " x":                                      {len(example) + 1, api.ErrSyntax},
		strings.Repeat(" ", 4001):                           {0, api.ErrFull},
		strings.Replace(example, "2010", "1990", 1):         {strings.Index(example, "- 15 every") + 2, api.ErrRange},
		strings.Replace(example, "2010 - 1", "2000 - 1", 1): {strings.Index(example, "- 15 every") + 2, api.ErrRange},
	} {
		if x, at, e := syntax.Parse(s); at != want.at || e != want.e || !syntax.Same(x, api.Indenture{}) {
			t.Errorf("%q %d %d", s, at, e)
		}
	}
}

func TestP12_1Limits(t *testing.T) {
	for _, c := range [][2]string{{"every 6", "every 0"}, {"every 6", "every 121"}, {"record 2", "record 101"}, {"rank 1", "rank 10"}, {"cap 100", "cap 10001"}, {"at 1010", "at 10001"}, {"grace 30", "grace 1001"}, {"majority 667", "majority 0"}, {"majority 667", "majority 1001"}, {"fast 250", "fast 0"}, {"majority 667", "notice 1001 ; majority 667"}, {"majority 667", "sink 1001 ; majority 667"}, {"< 3", "< ever 0 ( true )"}, {"< 3", "< long 1001 ( true )"}} {
		if at, e := replaced(c[0], c[1]); e != api.ErrRange {
			t.Error(c, at, e)
		}
	}
	for _, c := range [][2]string{{"every 6", "every 120"}, {"record 2", "record 100"}, {"rank 1", "rank 0"}, {"cap 100", "cap 0"}, {"cross 5000", "cross 0"}, {"fast 250", "fast 1000"}, {"< 3", "< ever 1000 ( true )"}} {
		if at, e := replaced(c[0], c[1]); e != api.OK {
			t.Error(c, at, e)
		}
	}
}

func numbered(format string, n int) string {
	s := ""
	for i := range n {
		s += strings.ReplaceAll(format, "#", "n"+strconv.Itoa(i)) + " "
	}
	return s
}

func TestP12_1Full(t *testing.T) {
	at := strings.Index(example, "let base")
	for n, want := range map[int]api.Errno{19: api.OK, 20: api.ErrFull} {
		lets := numbered("let # = 1 ;", n)
		got, e := replaced("let base", lets+"let base")
		if e != want || e != api.OK && got != at+len(lets) {
			t.Error("lets", n, got, e)
		}
		covenants := numbered("covenant # must true grace 1 ;", n)
		if _, e := replaced("covenant", covenants+"covenant"); e != want {
			t.Error("covenants", n, e)
		}
		if _, e := replaced("call", strings.Repeat("call 2000 - 1 - 1 at 1 ; ", n)+"call"); e != want {
			t.Error("calls", n, e)
		}
		if _, e := replaced("favour c", "favour c "+numbered("#", n)); e != want {
			t.Error("favour", n, e)
		}
	}
	if _, e := replaced("favour c", "favour "+numbered("#", 20)+"n0"); e != api.ErrFull {
		t.Error("full comes before twice", e)
	}
	if got, e := replaced("20 mille", deep(13)); e != api.ErrFull || got != strings.Index(example, "20 mille")+len(deep(13))+1 {
		t.Error("levels", got, e)
	}
	if _, e := replaced("20 mille ;", deep(13)+" grace"); e != api.ErrSyntax {
		t.Error("syntax comes before levels")
	}
	if _, e := replaced("20 mille", deep(12)); e != api.OK {
		t.Error("12 levels", e)
	}
}

func TestP12_1Twice(t *testing.T) {
	if at, e := replaced("coupon", "let base = 1 ; coupon"); e != api.ErrTwice || at != strings.Index(example, "coupon")+4 {
		t.Error("let", at, e)
	}
	if _, e := replaced("favour", "covenant cover must"); e != api.ErrTwice {
		t.Error("covenant", e)
	}
	if at, e := replaced("favour c", "favour c d c"); e != api.ErrTwice || at != strings.Index(example, "favour c")+11 {
		t.Error("favour", at, e)
	}
}

func TestP12_1Exp(t *testing.T) {
	for s, want := range map[string]struct {
		at int
		e  api.Errno
	}{
		"": {0, api.ErrSyntax}, "1 +": {3, api.ErrSyntax}, "a b": {2, api.ErrSyntax}, "a == b == c": {7, api.ErrSyntax}, "a == not b": {5, api.ErrSyntax}, "a + if b then c else d": {4, api.ErrSyntax},
		"fact debt coins": {10, api.ErrSyntax}, "ever 0 ( 1 )": {5, api.ErrRange}, "min ( a )": {8, api.ErrSyntax}, "( a": {3, api.ErrSyntax}, "if a then b": {11, api.ErrSyntax}, deep(13): {len(deep(13)), api.ErrFull},
		deep(13) + " )": {len(deep(13)) + 1, api.ErrSyntax}, "rate if": {5, api.ErrSyntax}, "1 mille mille": {8, api.ErrSyntax}, "not": {3, api.ErrSyntax}, "a ; ": {2, api.ErrSyntax}, "mille": {0, api.ErrSyntax}, "007": {0, api.ErrRange},
	} {
		if x, at, e := syntax.ParseExp(s); at != want.at || e != want.e || !syntax.SameExp(x, api.Exp{}) {
			t.Errorf("%q %d %d", s, at, e)
		}
	}
	x, _, _ := syntax.ParseExp("if a then 1 - 2 - 3 days else soon 5 ( not b < 2 coins or c and false )")
	num := func(n, unit int) api.Exp { return api.Exp{Op: api.ExNum, N: n, Unit: unit} }
	name := func(s string) api.Exp { return api.Exp{Op: api.ExName, S: s} }
	less := api.Exp{Op: api.ExNot, Args: []api.Exp{pairOf(api.ExLess, name("b"), num(2, api.UnMoney))}}
	want := api.Exp{Op: api.ExIf, Args: []api.Exp{name("a"), pairOf(api.ExSub, pairOf(api.ExSub, num(1, 0), num(2, 0)), num(3, api.UnDays)), {Op: api.ExSoon, N: 5, Args: []api.Exp{pairOf(api.ExOr, less, pairOf(api.ExAnd, name("c"), num(0, api.UnBool)))}}}}
	if !syntax.SameExp(x, want) {
		t.Error(x)
	}
}

func TestP12_2Print(t *testing.T) {
	x, _, _ := syntax.Parse(example)
	s, e := syntax.Print(x)
	if want := strings.ReplaceAll(example, "; ", ";\n") + "\n"; s != want || e != api.OK {
		t.Errorf("%q", s)
	}
	for in, want := range map[string]string{"long 30(fact debt<2*fact cash)": "long 30 ( fact debt < 2 * fact cash )", "3*(rate a+5 mille)": "3 * ( rate a + 5 mille )", "a-(b-c)-(d)": "a - ( b - c ) - d", "(a==b)==(c<d)": "( a == b ) == ( c < d )", "not (a and b)": "not ( a and b )", "(not a) and not not b": "not a and not not b", "min((if a then b else c),1)+(if a then (if b then c else d) else e)": "min ( if a then b else c , 1 ) + ( if a then if b then c else d else e )", "a*(b*c)/(d)": "a * ( b * c ) / d", "true": "true"} {
		y, _, _ := syntax.ParseExp(in)
		if got, e := syntax.PrintExp(y); got != want || e != api.OK {
			t.Error(in, got)
		}
	}
	for _, bad := range badExps() {
		if s, e := syntax.PrintExp(bad); s != "" || e != api.ErrArg || syntax.RightExp(bad) {
			t.Error(bad)
		}
	}
	wide := api.Exp{Op: api.ExName, S: strings.Repeat("n", 20)}
	for range 9 {
		wide = pairOf(api.ExAdd, wide, wide)
	}
	if s, e := syntax.PrintExp(wide); s != "" || e != api.ErrFull || !syntax.RightExp(wide) {
		t.Error("full")
	}
	x.Coupon = wide
	if s, e := syntax.Print(x); s != "" || e != api.ErrFull || !syntax.Right(x) {
		t.Error("full")
	}
}

func badExps() []api.Exp {
	one := api.Exp{Op: api.ExNum, N: 1}
	deepest := one
	for range 12 {
		deepest = api.Exp{Op: api.ExNot, Args: []api.Exp{deepest}}
	}
	return []api.Exp{{Op: -1}, {Op: api.ExOps}, {Op: api.ExName}, {Op: api.ExName, S: "let"}, {Op: api.ExFact, S: "A"}, {Op: api.ExNum, N: -1}, {Op: api.ExNum, N: api.MaxNumber + 1}, {Op: api.ExNum, Unit: api.UnBool, N: 2}, {Op: api.ExNum, Unit: api.UnKinds}, {Op: api.ExNum, S: "a"}, {Op: api.ExNum, Args: []api.Exp{one}}, {Op: api.ExName, S: "a", N: 1}, {Op: api.ExName, S: "a", Unit: 1}, {Op: api.ExAdd, Args: []api.Exp{one}}, {Op: api.ExNot, Args: []api.Exp{one, one}}, {Op: api.ExIf, Args: []api.Exp{one, one}}, {Op: api.ExEver, Args: []api.Exp{one}}, {Op: api.ExLong, N: 1001, Args: []api.Exp{one}}, {Op: api.ExNot, N: 1, Args: []api.Exp{one}}, {Op: api.ExNot, S: "a", Args: []api.Exp{one}}, deepest, {Op: api.ExNot, Args: []api.Exp{{Op: api.ExName}}}}
}

func TestP12_2Right(t *testing.T) {
	for i, spoil := range []func(x *api.Indenture){
		func(x *api.Indenture) { x.Name = "of" }, func(x *api.Indenture) { x.Issuer = "" }, func(x *api.Indenture) { x.Face = 0 }, func(x *api.Indenture) { x.Face = api.MaxMoney + 1 },
		func(x *api.Indenture) { x.From = -1 }, func(x *api.Indenture) { x.To = x.From }, func(x *api.Indenture) { x.To = api.MaxDay + 1 }, func(x *api.Indenture) { x.Every = 0 }, func(x *api.Indenture) { x.Every = 121 },
		func(x *api.Indenture) { x.Count = 3 }, func(x *api.Indenture) { x.Adjust = -1 }, func(x *api.Indenture) { x.Record = 101 }, func(x *api.Indenture) { x.Rank = 10 }, func(x *api.Indenture) { x.Lets[0].Name = "1" },
		func(x *api.Indenture) { x.Lets = append(x.Lets, x.Lets[0]) }, func(x *api.Indenture) { x.Lets[0].Body.Op = -1 }, func(x *api.Indenture) { x.Coupon = api.Exp{Op: api.ExAdd} }, func(x *api.Indenture) { x.Cap = 10001 },
		func(x *api.Indenture) { x.Covenants[0].Name = "" }, func(x *api.Indenture) { x.Covenants[0].Must.Op = 99 }, func(x *api.Indenture) { x.Covenants[0].Grace = 1001 }, func(x *api.Indenture) { x.Covenants = append(x.Covenants, x.Covenants[0]) },
		func(x *api.Indenture) { x.Favour = []string{"a", "a"} }, func(x *api.Indenture) { x.Favour = make([]string, 21) }, func(x *api.Indenture) { x.Cross = -2 }, func(x *api.Indenture) { x.Calls[0].From = -1 }, func(x *api.Indenture) { x.Calls[0].Price = -1 },
		func(x *api.Indenture) { x.Calls = make([]api.Call, 21) }, func(x *api.Indenture) { x.Notice = -1 }, func(x *api.Indenture) { x.Sink = 1001 }, func(x *api.Indenture) { x.Majority = 0 }, func(x *api.Indenture) { x.Fast = 1001 },
	} {
		x, _, _ := syntax.Parse(example)
		if !syntax.Right(x) {
			t.Fatal("right")
		}
		y, _, _ := syntax.Parse(example)
		spoil(&x)
		if s, e := syntax.Print(x); syntax.Right(x) || s != "" || e != api.ErrArg || syntax.Same(x, y) {
			t.Error(i)
		}
	}
}

func TestP12_3Same(t *testing.T) {
	a, b := api.Exp{Op: 77, N: -4}, api.Exp{Op: 77, N: -4, Args: []api.Exp{}}
	if !syntax.SameExp(a, b) || syntax.SameExp(a, api.Exp{Op: 77}) || syntax.SameExp(a, api.Exp{Op: 77, N: -4, Args: []api.Exp{{}}}) || syntax.SameExp(api.Exp{S: "a"}, api.Exp{}) || syntax.SameExp(api.Exp{Unit: 1}, api.Exp{}) {
		t.Error("same")
	}
	if !syntax.Same(api.Indenture{Favour: []string{}}, api.Indenture{}) || syntax.Same(api.Indenture{Sink: 1}, api.Indenture{}) || syntax.Same(api.Indenture{Calls: []api.Call{{}}}, api.Indenture{}) {
		t.Error("same indentures")
	}
	for s, want := range map[string]bool{"a": true, "let": false, "at": false, "a1": true, "1a": false, "": false, strings.Repeat("a", 21): false, " at ": false} {
		if syntax.Name(s) != want {
			t.Error(s)
		}
	}
}

func TestP12_4Fresh(t *testing.T) {
	x, _, _ := syntax.Parse(example)
	y, _, _ := syntax.Parse(example)
	x.Favour[0], x.Lets[0].Name, x.Coupon.Args[0].S = "q", "q", "q"
	if y.Favour[0] != "c" || y.Lets[0].Name != "base" || y.Coupon.Args[0].S != "base" {
		t.Error("shared")
	}
}

func randomExp(r *rand.Rand, n int) api.Exp {
	names := []string{"a", "b", "debt", "z9"}
	if n <= 1 || r.Intn(5) == 0 {
		switch r.Intn(4) {
		case 0:
			return api.Exp{Op: api.ExName + r.Intn(3), S: names[r.Intn(4)]}
		case 1:
			return api.Exp{Op: api.ExNum, N: r.Intn(2), Unit: api.UnBool}
		}
		return api.Exp{Op: api.ExNum, N: r.Intn(1000), Unit: r.Intn(4)}
	}
	e := api.Exp{Op: api.ExAdd + r.Intn(api.ExOps-api.ExAdd)}
	args := 2
	switch e.Op {
	case api.ExNot:
		args = 1
	case api.ExIf:
		args = 3
	case api.ExEver, api.ExLong, api.ExSoon:
		args, e.N = 1, 1+r.Intn(1000)
	}
	for range args {
		e.Args = append(e.Args, randomExp(r, n-1))
	}
	return e
}

func TestP12_5Inverse(t *testing.T) {
	r := rand.New(rand.NewSource(1))
	for range 2000 {
		e := randomExp(r, 5)
		s, no := syntax.PrintExp(e)
		back, at, no2 := syntax.ParseExp(strings.ReplaceAll(s, " ", " \t\n "))
		if no == api.OK && len(s) < 800 && (no2 != api.OK || !syntax.SameExp(e, back)) {
			t.Fatal(s, at, no2)
		}
	}
	x, _, _ := syntax.Parse(example)
	s, _ := syntax.Print(x)
	y, _, e := syntax.Parse(strings.ReplaceAll(s, " ", "  "))
	if e != api.OK || !syntax.Same(x, y) {
		t.Error(e)
	}
}

func TestP12_6Parentheses(t *testing.T) {
	r := rand.New(rand.NewSource(2))
	for range 500 {
		e := randomExp(r, 4)
		s, _ := syntax.PrintExp(e)
		words := strings.Split(s, " ")
		var open []int
		for i, w := range words {
			if w == "(" {
				open = append(open, i)
			}
			if w != ")" {
				continue
			}
			at := open[len(open)-1]
			open = open[:len(open)-1]
			if at > 0 && (words[at-1] == "min" || words[at-1] == "max" || at > 1 && slices.Contains([]string{"ever", "long", "soon"}, words[at-2])) {
				continue
			}
			rest := append(append(slices.Clone(words[:at]), words[at+1:i]...), words[i+1:]...)
			if x, _, no := syntax.ParseExp(strings.Join(rest, " ")); no == api.OK && syntax.SameExp(x, e) {
				t.Fatal(s)
			}
		}
	}
}

func TestP12_7Without(t *testing.T) {
	x, _, _ := syntax.Parse(strings.Replace(example, "call", "call 2003 - 1 - 1 at 5 ; call", 1))
	whole, _ := syntax.Print(x)
	check := func(y api.Indenture, line string) {
		t.Helper()
		if s, e := syntax.Print(y); e != api.OK || s != strings.Replace(whole, line, "", 1) || s == whole {
			t.Errorf("%q", s)
		}
	}
	y := x
	y.Lets = nil
	check(y, "let base = 20 mille ;\n")
	y = x
	y.Covenants = nil
	check(y, "covenant cover must fact debt < 3 * fact ebit grace 30 ;\n")
	y = x
	y.Calls = x.Calls[:1]
	check(y, "call 2005 - 1 - 15 at 1010 ;\n")
}

func TestP12_1Extremes(t *testing.T) {
	least := "issue a of b ; face 1 ; from 1900 - 1 - 1 to 1900 - 1 - 2 every 1 months ; count fixed ; adjust none ; record 0 ; rank 0 ; coupon ever 1 ( true ) ; cap 0 ; covenant c must 0 grace 0 ; cross 0 ; call 1900 - 1 - 1 at 0 ; notice 0 ; sink 0 ; majority 1 ; fast 1 ;"
	most := "issue a of b ; face 1000000000000000 ; from 2447 - 7 - 30 to 2447 - 7 - 31 every 120 months ; count actual ; adjust before ; record 100 ; rank 9 ; coupon long 1000 ( true ) + 1000000000000000 coins ; cap 10000 ; covenant c must 0 grace 1000 ; cross 1000000000000000 ; call 2447 - 7 - 31 at 10000 ; notice 1000 ; sink 1000 ; majority 1000 ; fast 1000 ;"
	for _, s := range []string{least, most} {
		x, at, e := syntax.Parse(s)
		if e != api.OK || !syntax.Right(x) {
			t.Fatal(at, e, s[at:])
		}
		printed, e := syntax.Print(x)
		y, at, e2 := syntax.Parse(printed)
		if e != api.OK || e2 != api.OK || at != 0 || !syntax.Same(x, y) {
			t.Error(printed)
		}
	}
	x, _, _ := syntax.Parse(least)
	x.Favour = []string{}
	if s, e := syntax.Print(x); e != api.OK || strings.Contains(s, "favour") || strings.Contains(s, "notice") || strings.Contains(s, "sink") || !strings.Contains(s, "cross 0 ;") {
		t.Error(s)
	}
	for _, adjust := range []string{"none", "next", "modified", "before"} {
		for _, count := range []string{"thirty", "fixed", "actual"} {
			s := strings.NewReplacer("adjust none", "adjust "+adjust, "count fixed", "count "+count).Replace(least)
			x, _, e := syntax.Parse(s)
			if p, _ := syntax.Print(x); e != api.OK || !strings.Contains(p, "adjust "+adjust+" ;") || !strings.Contains(p, "count "+count+" ;") {
				t.Error(p)
			}
		}
	}
	x, _, _ = syntax.Parse(least)
	for i := range 20 {
		x.Calls = append(x.Calls[:i:i], api.Call{From: i, Price: i})
		x.Lets = append(x.Lets, api.Let{Name: "l" + strconv.Itoa(i), Body: x.Coupon})
		x.Favour = append(x.Favour, "f"+strconv.Itoa(i))
		x.Covenants = append(x.Covenants[:i:i], api.Covenant{Name: "c" + strconv.Itoa(i), Must: x.Coupon})
	}
	if !syntax.Right(x) || len(x.Calls) != 20 || len(x.Covenants) != 20 {
		t.Error("20 clauses of each kind")
	}
	exact := "rate a"
	for len(exact)+len(" + rate a") <= 4000 && strings.Count(exact, "+") < 11 {
		exact += " + rate a"
	}
	if e, at, no := syntax.ParseExp(exact); no != api.OK || at != 0 || !syntax.RightExp(e) {
		t.Error("12 levels", no)
	}
	if _, _, no := syntax.ParseExp(exact + " + rate a"); no != api.ErrFull {
		t.Error("13 levels", no)
	}
	if !syntax.RightExp(api.Exp{Op: api.ExNum, Unit: api.UnBool}) || !syntax.RightExp(api.Exp{Op: api.ExNum, N: api.MaxNumber, Unit: api.UnRate}) {
		t.Error("numbers")
	}
}

func TestP12_2Exactly(t *testing.T) {
	// A text of exactly 4000 bytes can be printed: one name more or less makes the difference.
	build := func(names ...string) api.Exp {
		e := api.Exp{Op: api.ExName, S: names[0]}
		level := []api.Exp{}
		for _, n := range names {
			level = append(level, api.Exp{Op: api.ExName, S: n})
		}
		for len(level) > 1 {
			var next []api.Exp
			for i := 0; i < len(level); i += 2 {
				if i+1 == len(level) {
					next = append(next, level[i])
					continue
				}
				next = append(next, api.Exp{Op: api.ExMin, Args: []api.Exp{level[i], level[i+1]}})
			}
			level = next
		}
		e = level[0]
		return e
	}
	for total := 120; total < 300; total++ {
		names := slices.Repeat([]string{strings.Repeat("n", 18)}, total)
		s, e := syntax.PrintExp(build(names...))
		if e == api.OK && len(s) <= 4000 && len(s) > 3960 {
			for i := 0; len(s) < 4000; i++ {
				names[i] += "n"
				if s, e = syntax.PrintExp(build(names...)); e != api.OK {
					t.Fatal(len(s), e)
				}
			}
			names[total-1] += "n"
			if _, e := syntax.PrintExp(build(names...)); e != api.ErrFull {
				t.Error("4001 bytes")
			}
			return
		}
	}
	t.Error("no text comes near")
}

func TestP12_2Without(t *testing.T) {
	s := strings.Replace(example, " cross 5000 ;", "", 1)
	x, _, e := syntax.Parse(s)
	if p, no := syntax.Print(x); e != api.OK || no != api.OK || x.Cross != -1 || strings.Join(strings.Fields(p), " ") != s {
		t.Error(p, e, no)
	}
	for cross, want := range map[int]bool{-2: false, -1: true, 0: true, api.MaxMoney: true, api.MaxMoney + 1: false} {
		if x.Cross = cross; syntax.Right(x) != want {
			t.Error(cross)
		}
	}
	x.Cross, x.Count = -1, api.CoKinds
	if syntax.Right(x) {
		t.Error("count")
	}
	for _, bad := range []string{"call 1899 - 12 - 31 at 1010", "call 2005 - 0 - 15 at 1010", "call 2005 - 1 - 0 at 1010", "call 0 - 1 - 1 at 1010"} {
		if _, e := replaced("call 2005 - 1 - 15 at 1010", bad); e != api.ErrDate {
			t.Error(bad, e)
		}
	}
}
