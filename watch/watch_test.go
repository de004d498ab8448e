package watch_test

import (
	"math/rand"
	"slices"
	"testing"

	"consol/api"
	"consol/syntax"
	"consol/watch"
)

const (
	F = api.WaFalse
	T = api.WaTrue
	O = api.WaOpen
)

func exp(s string) api.Exp {
	e, at, no := syntax.ParseExp(s)
	if no != api.OK {
		panic(s[at:])
	}
	return e
}

func TestP25_1Atoms(t *testing.T) {
	var got []string
	for _, a := range watch.Atoms(exp("not a < b and ( ever 3 ( c or c ) or long 2 ( if soon 4 ( true ) then true else d ) ) and soon 1 ( 3 == 4 )")) {
		s, _ := syntax.PrintExp(a)
		got = append(got, s)
	}
	if want := []string{"a < b", "c", "c", "if soon 4 ( true ) then true else d", "3 == 4"}; !slices.Equal(got, want) {
		t.Error(got)
	}
	if len(watch.Atoms(api.Exp{Op: api.ExNot})) != 0 || len(watch.Atoms(exp("a"))) != 1 {
		t.Error("atoms")
	}
}

func TestP25_2Run(t *testing.T) {
	atom := []int{F, F, T, F, F}
	for s, want := range map[string][]int{
		"ever 2 ( a )": {F, F, T, T, F}, "long 2 ( not a )": {T, T, F, F, T}, "soon 2 ( a )": {F, T, T, F, O}, "not soon 3 ( a )": {F, F, F, O, O}, "a": atom, "ever 1 ( a )": atom, "soon 1 ( a )": atom, "soon 1000 ( a )": {T, T, T, O, O}, "ever 1000 ( a )": {F, F, T, T, T}, "long 1000 ( not a )": {T, T, F, F, F},
	} {
		if got, e := watch.Run(exp(s), [][]int{atom}, 5); !slices.Equal(got, want) || e != api.OK {
			t.Error(s, got, e)
		}
	}
	a, b := []int{F, F, F, T, T, T, O, O, O}, []int{F, T, O, F, T, O, F, T, O}
	for s, want := range map[string][]int{"a and b": {F, F, F, F, T, O, F, O, O}, "a or b": {F, T, O, T, T, T, O, T, O}} {
		if got, _ := watch.Run(exp(s), [][]int{a, b}, 9); !slices.Equal(got, want) {
			t.Error(s, got)
		}
	}
	if got, _ := watch.Run(exp("long 2 ( a )"), [][]int{{T, O, T, T, F, O}}, 6); !slices.Equal(got, []int{T, O, O, T, F, F}) {
		t.Error(got)
	}
	if got, e := watch.Run(exp("a"), [][]int{nil}, 0); len(got) != 0 || e != api.OK {
		t.Error("no days")
	}
}

func TestP25_2Errors(t *testing.T) {
	for i, c := range []struct {
		e      api.Exp
		truths [][]int
		days   int
	}{
		{api.Exp{Op: 99}, nil, 0}, {exp("ever 3 ( true ) == true"), [][]int{{T}}, 1}, {exp("a"), [][]int{nil}, -1}, {exp("a"), [][]int{make([]int, 1001)}, 1001}, {exp("a"), nil, 0}, {exp("a"), [][]int{{T}, {T}}, 1},
		{exp("a"), [][]int{{T}}, 2}, {exp("a"), [][]int{{3}}, 1}, {exp("a"), [][]int{{-1}}, 1}, {exp("not ( if true then long 2 ( a ) else b )"), [][]int{{T}}, 1},
	} {
		if got, e := watch.Run(c.e, c.truths, c.days); len(got) != 0 || e != api.ErrArg {
			t.Error(i, got, e)
		}
	}
	if _, e := watch.Run(exp("a"), [][]int{make([]int, 1000)}, 1000); e != api.OK {
		t.Error("1000 days")
	}
}

func TestP25_3Fresh(t *testing.T) {
	l := [][]int{{F, T}}
	got, _ := watch.Run(exp("a"), l, 2)
	got[0] = O
	e := exp("not ( a < b )")
	watch.Atoms(e)[0].Args[0].S = "x"
	if l[0][0] != F || e.Args[0].Args[0].S != "a" {
		t.Error("shared")
	}
}

func random(r *rand.Rand, n int) api.Exp {
	if n == 0 {
		return api.Exp{Op: api.ExName, S: "a"}
	}
	switch op := []int{api.ExNot, api.ExAnd, api.ExOr, api.ExEver, api.ExLong, api.ExSoon}[r.Intn(6)]; op {
	case api.ExNot:
		return api.Exp{Op: op, Args: []api.Exp{random(r, n-1)}}
	case api.ExAnd, api.ExOr:
		return api.Exp{Op: op, Args: []api.Exp{random(r, n-1), random(r, n-1)}}
	default:
		return api.Exp{Op: op, N: 1 + r.Intn(4), Args: []api.Exp{random(r, n-1)}}
	}
}

// naive finds what is known by the definition.
func naive(e api.Exp, truths [][]int, days, d int) (int, int) {
	if e.Op == api.ExName {
		return truths[0][d], 1
	}
	join := func(first, last, whenOut int, any bool) (int, int) {
		_, used := naive(e.Args[0], truths, days, 0)
		var l []int
		for k := first; k <= last; k++ {
			x := whenOut
			if k < days {
				x, _ = naive(e.Args[0], truths, days, k)
			}
			l = append(l, x)
		}
		strong, weak := F, T
		if any {
			strong, weak = T, F
		}
		switch {
		case slices.Contains(l, strong):
			return strong, used
		case slices.Contains(l, O):
			return O, used
		}
		return weak, used
	}
	switch e.Op {
	case api.ExEver:
		return join(max(0, d-e.N+1), d, O, true)
	case api.ExLong:
		return join(max(0, d-e.N+1), d, O, false)
	case api.ExSoon:
		return join(d, d+e.N-1, O, true)
	}
	a, used := naive(e.Args[0], truths, days, d)
	if e.Op == api.ExNot {
		return map[int]int{F: T, T: F, O: O}[a], used
	}
	b, more := naive(e.Args[1], truths[used:], days, d)
	strong, weak := F, T
	if e.Op == api.ExOr {
		strong, weak = T, F
	}
	switch {
	case a == strong || b == strong:
		return strong, used + more
	case a == O || b == O:
		return O, used + more
	}
	return weak, used + more
}

func randomTruths(r *rand.Rand, e api.Exp, days, kinds int) [][]int {
	var l [][]int
	for range watch.Atoms(e) {
		var t []int
		for range days {
			t = append(t, r.Intn(kinds))
		}
		l = append(l, t)
	}
	return l
}

func TestP25_4More(t *testing.T) {
	r := rand.New(rand.NewSource(1))
	for range 1000 {
		e := random(r, r.Intn(4))
		days := 1 + r.Intn(7)
		truths := randomTruths(r, e, days, 3)
		known, _ := watch.Run(e, truths, days)
		for d := range days {
			if want, _ := naive(e, truths, days, d); known[d] != want {
				t.Fatal(e, truths, known)
			}
		}
		for i := range truths {
			for d := range truths[i] {
				if truths[i][d] == O {
					truths[i][d] = r.Intn(3)
				}
			}
			truths[i] = append(truths[i], r.Intn(3))
		}
		more, _ := watch.Run(e, truths, days+1)
		for d, k := range known {
			if k != O && more[d] != k {
				t.Fatal(e)
			}
		}
	}
}

func hasSoon(e api.Exp) bool { return e.Op == api.ExSoon || slices.ContainsFunc(e.Args, hasSoon) }

func TestP25_5Past(t *testing.T) {
	r := rand.New(rand.NewSource(2))
	for range 500 {
		e := random(r, 3)
		if hasSoon(e) {
			continue
		}
		truths := randomTruths(r, e, 6, 2)
		known, _ := watch.Run(e, truths, 6)
		if slices.Contains(known, O) {
			t.Fatal("open")
		}
		for i := range truths {
			truths[i][5] = 1 - truths[i][5]
		}
		other, _ := watch.Run(e, truths, 6)
		if !slices.Equal(known[:5], other[:5]) {
			t.Fatal("later days")
		}
	}
}

func TestP25_6Duals(t *testing.T) {
	r := rand.New(rand.NewSource(3))
	order := map[int]int{F: 0, O: 1, T: 2}
	for range 300 {
		a, b := randomTruths(r, exp("a"), 8, 3), randomTruths(r, exp("a"), 8, 3)
		for _, p := range [][2]string{{"not ever 3 ( a )", "long 3 ( not a )"}, {"not long 3 ( a )", "ever 3 ( not a )"}} {
			x, _ := watch.Run(exp(p[0]), a, 8)
			y, _ := watch.Run(exp(p[1]), a, 8)
			if !slices.Equal(x, y) {
				t.Fatal(p)
			}
		}
		x, _ := watch.Run(exp("not ( a and b )"), append(a, b...), 8)
		y, _ := watch.Run(exp("not a or not b"), append(a, b...), 8)
		if !slices.Equal(x, y) {
			t.Fatal("and")
		}
		for op, sign := range map[int]int{api.ExEver: 1, api.ExSoon: 1, api.ExLong: -1} {
			n := 1 + r.Intn(5)
			x, _ := watch.Run(api.Exp{Op: op, N: n, Args: []api.Exp{exp("a")}}, a, 8)
			y, _ := watch.Run(api.Exp{Op: op, N: n + 1, Args: []api.Exp{exp("a")}}, a, 8)
			for d := range x {
				if op == api.ExSoon && (x[d] == O || y[d] == O) {
					continue
				}
				if sign*order[y[d]] < sign*order[x[d]] {
					t.Fatal(op, n, a, x, y)
				}
			}
		}
	}
}

func TestP25_2Days(t *testing.T) {
	if got, e := watch.Run(exp("a"), [][]int{{}}, -1); len(got) != 0 || e != api.ErrArg {
		t.Error("fewer than no days")
	}
	if got, e := watch.Run(exp("soon 3 ( a ) or long 1000 ( a )"), [][]int{nil, nil}, 0); len(got) != 0 || e != api.OK {
		t.Error("no days")
	}
}
