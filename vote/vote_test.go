package vote_test

import (
	"math"
	"math/rand"
	"slices"
	"testing"

	"consol/api"
	"consol/vote"
)

func v(seat, day int, yes bool) api.Vote { return api.Vote{Seat: seat, Day: day, Yes: yes} }

func example() []api.Vote {
	return []api.Vote{v(0, 1, true), v(2, 2, true), v(2, 4, false), v(1, 5, true)}
}

func TestP35_1Last(t *testing.T) {
	if got := vote.Last(example(), 3, 3); !slices.Equal(got, []bool{true, false, true}) {
		t.Error(got)
	}
	if got := vote.Last(example(), 3, 9); !slices.Equal(got, []bool{true, true, false}) {
		t.Error(got)
	}
	if got := vote.Last([]api.Vote{v(0, 9, true), v(0, -7, false), v(-1, 0, true), v(7, 0, true)}, 1, math.MaxInt); !slices.Equal(got, []bool{false}) {
		t.Error("the last one of the list", got)
	}
	if len(vote.Last(example(), -1, 9)) != 0 || len(vote.Last(example(), 20001, 9)) != 0 || len(vote.Last(nil, 20000, math.MinInt)) != 20000 {
		t.Error("seats")
	}
}

func TestP35_2Tally(t *testing.T) {
	for until, want := range map[int]int{0: 0, 1: 10, 3: 40, 4: 10, 9: 30, -5: 0, math.MaxInt: 30} {
		if yes, all, e := vote.Tally([]int{10, 20, 30}, example(), until); yes != want || all != 60 || e != api.OK {
			t.Error(until, yes, all, e)
		}
	}
	for i, c := range []struct {
		units []int
		votes []api.Vote
	}{{[]int{-1}, nil}, {[]int{api.MaxUnits + 1}, nil}, {[]int{api.MaxUnits, 1}, nil}, {make([]int, 20001), nil}, {[]int{1}, []api.Vote{v(1, 0, true)}}, {[]int{1}, []api.Vote{v(-1, 0, true)}}, {[]int{1}, []api.Vote{v(0, -1, true)}}, {[]int{1}, []api.Vote{v(0, 200001, true)}}, {[]int{1}, []api.Vote{v(0, 5, true), v(0, 4, true)}}, {[]int{1}, make([]api.Vote, 2001)}} {
		if yes, all, e := vote.Tally(c.units, c.votes, 9); yes != 0 || all != 0 || e != api.ErrArg {
			t.Error(i, e)
		}
	}
	if yes, all, e := vote.Tally(nil, nil, 0); yes+all != 0 || e != api.OK {
		t.Error("none")
	}
}

func TestP35_3Majorities(t *testing.T) {
	if !vote.Reached(666, 40, 60) || vote.Reached(667, 40, 60) || vote.Missing(667, 40, 60) != 1 || vote.Missing(1000, 10, 60) != 50 || vote.Missing(666, 40, 60) != 0 || vote.Missing(1, 60, 60) != 0 {
		t.Error("majorities")
	}
	for i, c := range [][3]int{{0, 1, 1}, {1001, 1, 1}, {500, -1, 1}, {500, 2, 1}, {500, 0, 0}, {500, 1, api.MaxUnits + 1}} {
		if vote.Reached(c[0], c[1], c[2]) || vote.Missing(c[0], c[1], c[2]) != -1 {
			t.Error(i)
		}
	}
	if !vote.Reached(1000, api.MaxUnits, api.MaxUnits) || vote.Reached(1000, api.MaxUnits-1, api.MaxUnits) {
		t.Error("limits")
	}
}

func TestP35_4Pure(t *testing.T) {
	l, u := example(), []int{10, 20, 30}
	vote.Tally(u, l, 9)
	if !slices.Equal(l, example()) || !slices.Equal(u, []int{10, 20, 30}) {
		t.Error("changed")
	}
}

func random(r *rand.Rand) []api.Vote {
	var l []api.Vote
	day := 0
	for range r.Intn(9) {
		day += r.Intn(3)
		l = append(l, v(r.Intn(4), day, r.Intn(2) == 0))
	}
	return l
}

func TestP35_5Last(t *testing.T) {
	r := rand.New(rand.NewSource(1))
	for range 500 {
		l := random(r)
		units := []int{r.Intn(9), r.Intn(9), r.Intn(9), r.Intn(9)}
		yes, all, _ := vote.Tally(units, l, 99)
		if yes > all {
			t.Fatal("yes")
		}
		var bySeat []api.Vote
		for seat := range 4 {
			for _, x := range l {
				if x.Seat == seat {
					x.Day = 7
					bySeat = append(bySeat, x, x)
				}
			}
		}
		if y, _, _ := vote.Tally(units, bySeat, 99); y != yes {
			t.Fatal(l)
		}
		back := append(slices.Clone(bySeat), v(2, 9, false))
		none := slices.DeleteFunc(slices.Clone(bySeat), func(x api.Vote) bool { return x.Seat == 2 })
		a, _, _ := vote.Tally(units, back, 99)
		b, _, _ := vote.Tally(units, none, 99)
		if a != b {
			t.Fatal("taken back")
		}
	}
}

func TestP35_6Later(t *testing.T) {
	r := rand.New(rand.NewSource(2))
	for range 500 {
		l := random(r)
		units := []int{1, 2, 4, 8}
		for day := range 10 {
			a, _, _ := vote.Tally(units, l, day)
			b, _, _ := vote.Tally(units, slices.DeleteFunc(slices.Clone(l), func(x api.Vote) bool { return x.Day > day }), 99)
			if a != b {
				t.Fatal(l)
			}
		}
	}
}

func TestP35_7More(t *testing.T) {
	r := rand.New(rand.NewSource(3))
	for range 3000 {
		all := 1 + r.Intn(50)
		yes := r.Intn(all + 1)
		majority := 1 + r.Intn(1000)
		if majority > 500 && vote.Reached(majority, yes, all) && vote.Reached(majority, all-yes, all) {
			t.Fatal("both")
		}
		if vote.Reached(majority, yes, all) && yes < all && !vote.Reached(majority, yes+1, all) {
			t.Fatal("more")
		}
		m := vote.Missing(majority, yes, all)
		if !vote.Reached(majority, yes+m, all) || m > 0 && vote.Reached(majority, yes+m-1, all) {
			t.Fatal(majority, yes, all, m)
		}
	}
}

func TestP35_2Limits(t *testing.T) {
	units := make([]int, 20000)
	units[19999] = api.MaxUnits
	yes, all, e := vote.Tally(units, slices.Repeat([]api.Vote{v(19999, 200000, true)}, 2000), 200000)
	if yes != api.MaxUnits || all != api.MaxUnits || e != api.OK {
		t.Error(yes, all, e)
	}
	if yes, all, e := vote.Tally([]int{0, 0}, []api.Vote{v(0, 0, true)}, 0); yes+all != 0 || e != api.OK {
		t.Error("no units", e)
	}
	if l := vote.Last([]api.Vote{v(0, 0, true)}, 1, 0); !slices.Equal(l, []bool{true}) {
		t.Error(l)
	}
	if l := vote.Last(nil, 0, 0); len(l) != 0 {
		t.Error(l)
	}
	for i, bad := range [][]int{{-1}, {api.MaxUnits + 1}, make([]int, 20001)} {
		if yes, all, e := vote.Tally(bad, nil, 0); yes != 0 || all != 0 || e != api.ErrArg {
			t.Error(i, yes, all, e)
		}
	}
}
