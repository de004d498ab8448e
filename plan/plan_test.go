package plan_test

import (
	"math/rand"
	"reflect"
	"slices"
	"testing"

	"consol/api"
	"consol/plan"
)

func option(year, due int, costs ...int) api.Option {
	return api.Option{Costs: costs, Year: year, Due: due}
}

func example(cap int) api.Task {
	return api.Task{Options: [][]api.Option{{option(-1, 0, 5), option(0, 40, 3)}, {option(-1, 0, 7), option(0, 30, 2)}}, Caps: []int{cap}}
}

func spoils() []func(t *api.Task) {
	return []func(t *api.Task){
		func(t *api.Task) { t.Options = nil }, func(t *api.Task) { t.Options = slices.Repeat(t.Options, 21) }, func(t *api.Task) { t.Options[0] = nil }, func(t *api.Task) { t.Options[0] = slices.Repeat(t.Options[0][:1], 7) }, func(t *api.Task) { t.Options[0][0].Costs = nil }, func(t *api.Task) { t.Options[1][1].Costs = []int{1, 2} },
		func(t *api.Task) { t.Options[0][0].Costs[0] = -1 }, func(t *api.Task) { t.Options[0][0].Costs[0] = api.MaxMoney + 1 }, func(t *api.Task) { t.Caps = make([]int, 61) }, func(t *api.Task) { t.Caps[0] = -1 }, func(t *api.Task) { t.Caps[0] = api.MaxMoney + 1 }, func(t *api.Task) { t.Options[1][0].Year = -2 }, func(t *api.Task) { t.Options[1][0].Year = 1 }, func(t *api.Task) { t.Options[1][0].Due = -1 }, func(t *api.Task) { t.Options[1][0].Due = api.MaxMoney + 1 },
		func(t *api.Task) {
			for _, l := range t.Options {
				for k := range l {
					l[k].Costs = make([]int, 11)
				}
			}
		},
	}
}

func TestP40_1Cost(t *testing.T) {
	if !plan.Right(example(50)) {
		t.Error("right")
	}
	for i, spoil := range spoils() {
		x := example(50)
		spoil(&x)
		if n, ok := plan.Cost(x, []int{0, 0}); plan.Right(x) || n != 0 || ok {
			t.Error(i)
		}
		if c, n, p, e := plan.Best(x); len(c) != 0 || n != 0 || len(p) != 0 || e != api.ErrArg {
			t.Error(i, e)
		}
		if plan.Check(x, nil, 0, nil) != api.ErrArg {
			t.Error(i)
		}
	}
	for i, c := range []struct {
		choice []int
		want   int
		ok     bool
	}{{[]int{0, 1}, 7, true}, {[]int{1, 1}, 0, false}, {[]int{0}, 0, false}, {[]int{0, 2}, 0, false}, {[]int{0, -1}, 0, false}, {[]int{0, 0, 0}, 0, false}} {
		if n, ok := plan.Cost(example(50), c.choice); n != c.want || ok != c.ok {
			t.Error(i, n, ok)
		}
	}
	two := api.Task{Options: [][]api.Option{{option(-1, 0, 5, 1)}, {option(-1, 0, 1, 9)}}}
	if n, _ := plan.Cost(two, []int{0, 0}); n != 10 {
		t.Error("scenarios", n)
	}
}

func TestP40_2Best(t *testing.T) {
	for _, c := range []struct {
		cap    int
		choice []int
		cost   int
		proof  []api.Bound
	}{
		{100, []int{1, 1}, 5, []api.Bound{{Choice: nil, Cost: 5, Over: -1}}},
		{50, []int{0, 1}, 7, []api.Bound{{Choice: []int{0}, Cost: 7, Over: -1}, {Choice: []int{1, 0}, Cost: 10, Over: -1}, {Choice: []int{1, 1}}}},
		{20, []int{0, 0}, 12, []api.Bound{{Choice: []int{0, 0}, Cost: 12, Over: -1}, {Choice: []int{0, 1}}, {Choice: []int{1}}}},
	} {
		choice, cost, proof, e := plan.Best(example(c.cap))
		same := slices.EqualFunc(proof, c.proof, func(a, b api.Bound) bool {
			return slices.Equal(a.Choice, b.Choice) && a.Cost == b.Cost && a.Over == b.Over
		})
		if e != api.OK || !slices.Equal(choice, c.choice) || cost != c.cost || !same {
			t.Error(c.cap, choice, cost, proof, e)
		}
	}
	x := example(20)
	x.Options[0] = x.Options[0][1:]
	if c, n, p, e := plan.Best(x); len(c) != 0 || n != 0 || len(p) != 0 || e != api.ErrNone {
		t.Error(e)
	}
	// Two years are over: the least one is named.
	x = api.Task{Options: [][]api.Option{{option(1, 5, 1), option(-1, 0, 9)}, {option(0, 5, 1), option(-1, 0, 9)}}, Caps: []int{4, 10}}
	if _, _, proof, _ := plan.Best(x); len(proof) == 0 || proof[0].Over != 0 {
		t.Error(proof)
	}
	// Every choice is looked at: 2^17 of them.
	deep := api.Task{Caps: []int{0}}
	for range 16 {
		deep.Options = append(deep.Options, []api.Option{option(-1, 0, 1), option(-1, 0, 1)})
	}
	deep.Options = append(deep.Options, []api.Option{option(0, 1, 1)})
	if c, n, p, e := plan.Best(deep); len(c) != 0 || n != 0 || len(p) != 0 || e != api.ErrFull {
		t.Error("full", e)
	}
}

func TestP40_3Check(t *testing.T) {
	x := example(50)
	choice, cost, proof, _ := plan.Best(x)
	if plan.Check(x, choice, cost, proof) != api.OK {
		t.Fatal("refused")
	}
	loose := slices.Clone(proof)
	loose[1].Cost = 7
	loose[2].Cost = 99
	if plan.Check(x, choice, cost, loose) != api.OK {
		t.Error("lesser bounds")
	}
	if plan.Check(example(100), []int{1, 1}, 5, []api.Bound{{Choice: []int{0}, Cost: 7, Over: -1}, {Choice: []int{1}, Cost: 5, Over: -1}}) != api.OK {
		t.Error("longer choices than needed")
	}
	spoil := func(i int, b api.Bound) []api.Bound {
		l := slices.Clone(proof)
		l[i] = b
		return l
	}
	for i, p := range [][]api.Bound{
		nil, proof[:2], append(slices.Clone(proof), proof[2]), {proof[1], proof[0], proof[2]}, spoil(0, api.Bound{Choice: []int{0}, Cost: 8, Over: -1}), spoil(0, api.Bound{Choice: []int{0}, Cost: 6, Over: -1}), spoil(0, api.Bound{Choice: []int{0}}), spoil(2, api.Bound{Choice: []int{1, 1}, Over: 1}), spoil(2, api.Bound{Choice: []int{1, 1}, Over: -2}), spoil(2, api.Bound{Choice: []int{1, 1}, Cost: 7, Over: -1}), spoil(0, api.Bound{Cost: 7, Over: -1}), spoil(0, api.Bound{Choice: []int{7}, Over: -1}),
	} {
		if plan.Check(x, choice, cost, p) != api.ErrCheck {
			t.Error(i)
		}
	}
	if plan.Check(x, choice, 8, proof) != api.ErrCheck || plan.Check(x, []int{1, 1}, 5, proof) != api.ErrCheck || plan.Check(x, []int{0}, 7, proof) != api.ErrCheck {
		t.Error("cost")
	}
}

func TestP40_4Fresh(t *testing.T) {
	x := example(50)
	_, _, proof, _ := plan.Best(x)
	proof[1].Choice[0] = 9
	if proof[2].Choice[0] != 1 || !reflect.DeepEqual(x, example(50)) {
		t.Error("shared")
	}
}

func random(r *rand.Rand) api.Task {
	var t api.Task
	for range r.Intn(3) {
		t.Caps = append(t.Caps, r.Intn(20))
	}
	scenarios := 1 + r.Intn(3)
	for range 1 + r.Intn(5) {
		var l []api.Option
		for range 1 + r.Intn(3) {
			o := option(r.Intn(len(t.Caps)+1)-1, r.Intn(12))
			for range scenarios {
				o.Costs = append(o.Costs, r.Intn(10))
			}
			l = append(l, o)
		}
		t.Options = append(t.Options, l)
	}
	return t
}

// first returns the first one in lexicographic order among the cheapest choices.
func first(t api.Task) ([]int, int) {
	var best []int
	cost := -1
	var walk func(choice []int)
	walk = func(choice []int) {
		if len(choice) == len(t.Options) {
			if n, ok := plan.Cost(t, choice); ok && (cost < 0 || n < cost) {
				best, cost = slices.Clone(choice), n
			}
			return
		}
		for k := range t.Options[len(choice)] {
			walk(append(slices.Clone(choice), k))
		}
	}
	walk(nil)
	return best, cost
}

func TestP40_5Accepted(t *testing.T) {
	r := rand.New(rand.NewSource(1))
	for range 500 {
		x := random(r)
		choice, cost, proof, e := plan.Best(x)
		_, want := first(x)
		if e == api.ErrNone {
			if want >= 0 {
				t.Fatal(x)
			}
			continue
		}
		if plan.Check(x, choice, cost, proof) != api.OK || cost != want {
			t.Fatal(x, choice, cost, want)
		}
	}
}

func TestP40_6First(t *testing.T) {
	r := rand.New(rand.NewSource(2))
	for range 500 {
		x := random(r)
		choice, _, _, _ := plan.Best(x)
		if want, _ := first(x); !slices.Equal(choice, want) {
			t.Fatal(x, choice, want)
		}
	}
}

func TestP40_7More(t *testing.T) {
	r := rand.New(rand.NewSource(3))
	for range 500 {
		x := random(r)
		_, before, _, e := plan.Best(x)
		if e != api.OK {
			continue
		}
		switch k := r.Intn(len(x.Options)); {
		case r.Intn(2) == 0 && len(x.Caps) > 0:
			x.Caps[0] += 5
		default:
			x.Options[k] = append(x.Options[k], option(-1, 0, slices.Repeat([]int{r.Intn(10)}, len(x.Options[0][0].Costs))...))
		}
		if _, after, _, e := plan.Best(x); e != api.OK || after > before {
			t.Fatal(before, after, e)
		}
	}
}

// tree has as many choices as it says, none of which keeps the cap in the end.
func tree(sizes ...int) api.Task {
	t := api.Task{Caps: []int{0}}
	for i, n := range sizes {
		o := option(-1, 0, 1)
		if i == len(sizes)-1 {
			o = option(0, 1, 1)
		}
		t.Options = append(t.Options, slices.Repeat([]api.Option{o}, n))
	}
	return t
}

func TestP40_2Looks(t *testing.T) {
	if _, _, _, e := plan.Best(tree(3, 4, 4, 6, 2, 4, 6, 6)); e != api.ErrNone {
		t.Error("100000 choices", e)
	}
	if _, _, _, e := plan.Best(tree(5, 1, 6, 4, 4, 3, 4, 4, 3)); e != api.ErrFull {
		t.Error("100001 choices", e)
	}
}

func TestP40_1Limits(t *testing.T) {
	x := api.Task{Caps: slices.Repeat([]int{api.MaxMoney}, 60)}
	for range 40 {
		x.Options = append(x.Options, slices.Repeat([]api.Option{option(59, api.MaxMoney, slices.Repeat([]int{api.MaxMoney}, 10)...)}, 6))
	}
	if !plan.Right(x) {
		t.Error("limits")
	}
	if _, ok := plan.Cost(x, make([]int, 40)); ok {
		t.Error("the cap")
	}
	x.Options = x.Options[:1]
	if n, ok := plan.Cost(x, []int{5}); n != api.MaxMoney || !ok {
		t.Error("exactly the cap", n)
	}
	if e := plan.Check(x, []int{0}, 0, []api.Bound{{Over: -1, Cost: 0}}); e != api.ErrCheck {
		t.Error("a cost that is not its", e)
	}
}
