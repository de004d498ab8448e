package margin_test

import (
	"math/rand"
	"slices"
	"testing"

	"consol/api"
	"consol/margin"
	"consol/plan"
)

func option(year, due int, costs ...int) api.Option {
	return api.Option{Costs: costs, Year: year, Due: due}
}

func example() api.Task {
	return api.Task{Options: [][]api.Option{{option(-1, 0, 10), option(-1, 0, 14)}, {option(-1, 0, 5), option(-1, 0, 7)}}}
}

func TestP41_1Span(t *testing.T) {
	for _, c := range []struct{ issue, option, low, high int }{{0, 0, 0, 14}, {0, 1, 10, api.MaxMoney}, {1, 0, 0, 7}, {1, 1, 5, api.MaxMoney}} {
		if low, high, e := margin.Span(example(), c.issue, c.option, 0); low != c.low || high != c.high || e != api.OK {
			t.Error(c, low, high, e)
		}
	}
	for i, c := range [][3]int{{-1, 0, 0}, {2, 0, 0}, {0, -1, 0}, {0, 2, 0}, {0, 0, -1}, {0, 0, 1}} {
		if low, high, e := margin.Span(example(), c[0], c[1], c[2]); low+high != 0 || e != api.ErrArg {
			t.Error(i, e)
		}
	}
	if _, _, e := margin.Span(api.Task{}, 0, 0, 0); e != api.ErrArg {
		t.Error("task")
	}
	var many api.Task
	for range 17 {
		many.Options = append(many.Options, []api.Option{option(-1, 0, 1), option(-1, 0, 2)})
	}
	if _, _, e := margin.Span(many, 0, 0, 0); e != api.ErrFull {
		t.Error("full", e)
	}
	many.Options = many.Options[:16]
	if low, high, e := margin.Span(many, 0, 0, 0); low != 0 || high != 2 || e != api.OK {
		t.Error(low, high, e)
	}
	if _, _, e := margin.Span(api.Task{Options: [][]api.Option{{option(0, 5, 1)}}, Caps: []int{4}}, 0, 0, 0); e != api.ErrNone {
		t.Error("none", e)
	}
}

func TestP41_2Stays(t *testing.T) {
	if !margin.Stays(example(), []int{0, 0}) || margin.Stays(example(), []int{1, 0}) || margin.Stays(example(), []int{0}) || margin.Stays(api.Task{}, nil) {
		t.Error("stays")
	}
	x := example()
	x.Options[0][1].Costs[0] = 10
	if !margin.Stays(x, []int{1, 0}) || !margin.Stays(x, []int{0, 0}) {
		t.Error("equal costs")
	}
	x = api.Task{Options: [][]api.Option{{option(0, 5, 1), option(-1, 0, 3)}}, Caps: []int{4}}
	if margin.Stays(x, []int{0}) || !margin.Stays(x, []int{1}) {
		t.Error("caps")
	}
}

func TestP41_3Pure(t *testing.T) {
	x := example()
	margin.Span(x, 0, 0, 0)
	if x.Options[0][0].Costs[0] != 10 {
		t.Error("changed")
	}
}

func random(r *rand.Rand) api.Task {
	var t api.Task
	for range r.Intn(3) {
		t.Caps = append(t.Caps, r.Intn(20))
	}
	scenarios := 1 + r.Intn(3)
	for range 1 + r.Intn(3) {
		var l []api.Option
		for range 1 + r.Intn(3) {
			o := option(r.Intn(len(t.Caps)+1)-1, r.Intn(12))
			for range scenarios {
				o.Costs = append(o.Costs, r.Intn(10))
			}
			l = append(l, o)
		}
		t.Options = append(t.Options, l)
	}
	return t
}

func TestP41_4Values(t *testing.T) {
	r := rand.New(rand.NewSource(1))
	for range 500 {
		x := random(r)
		best, _, _, e := plan.Best(x)
		if e != api.OK {
			continue
		}
		issue := r.Intn(len(x.Options))
		option := r.Intn(len(x.Options[issue]))
		scenario := r.Intn(len(x.Options[0][0].Costs))
		low, high, _ := margin.Span(x, issue, option, scenario)
		cost := &x.Options[issue][option].Costs[scenario]
		if *cost < low || *cost > high {
			t.Fatal("the present value")
		}
		for v := range 50 {
			*cost = v
			if margin.Stays(x, best) != (low <= v && v <= high) {
				t.Fatal(x, best, v, low, high)
			}
		}
		*cost = api.MaxMoney
		if margin.Stays(x, best) != (high == api.MaxMoney) {
			t.Fatal("the greatest value")
		}
	}
}

func TestP41_5Ends(t *testing.T) {
	r := rand.New(rand.NewSource(2))
	for range 500 {
		x := random(r)
		best, _, _, e := plan.Best(x)
		if e != api.OK {
			continue
		}
		for issue, options := range x.Options {
			for k := range options {
				low, high, _ := margin.Span(x, issue, k, 0)
				if best[issue] != k && high != api.MaxMoney || best[issue] == k && len(x.Options[0][0].Costs) == 1 && low != 0 {
					t.Fatal(x, issue, k, low, high)
				}
			}
		}
	}
}

// all returns all whole choices of a task.
func all(t api.Task) [][]int {
	l := [][]int{nil}
	for _, options := range t.Options {
		var next [][]int
		for _, choice := range l {
			for k := range options {
				next = append(next, append(slices.Clone(choice), k))
			}
		}
		l = next
	}
	return l
}

func TestP41_6Checked(t *testing.T) {
	r := rand.New(rand.NewSource(3))
	for range 200 {
		x := random(r)
		_, cost, proof, e := plan.Best(x)
		if e != api.OK {
			continue
		}
		for _, choice := range all(x) {
			if margin.Stays(x, choice) != (plan.Check(x, choice, cost, proof) == api.OK) {
				t.Fatal(x, choice)
			}
		}
	}
}

func TestP41_1Choices(t *testing.T) {
	x := api.Task{Options: [][]api.Option{}}
	for range 5 {
		x.Options = append(x.Options, []api.Option{option(-1, 0, 1), option(-1, 0, 9)})
		var five []api.Option
		for k := range 5 {
			five = append(five, option(-1, 0, 2+k))
		}
		x.Options = append(x.Options, five)
	}
	if low, high, e := margin.Span(x, 9, 0, 0); low != 0 || high != 3 || e != api.OK {
		t.Error("100000 choices", low, high, e)
	}
	x.Options[9] = append(x.Options[9], option(-1, 0, 30))
	if low, high, e := margin.Span(x, 9, 0, 0); low != 0 || high != 0 || e != api.ErrFull {
		t.Error("120000 choices", low, high, e)
	}
	none := api.Task{Options: [][]api.Option{{option(0, 5, 1)}}, Caps: []int{4}}
	if low, high, e := margin.Span(none, 0, 0, 0); low != 0 || high != 0 || e != api.ErrNone {
		t.Error(low, high, e)
	}
}
