package state_test

import (
	"slices"
	"strings"
	"testing"

	"consol/api"
	"consol/state"
)

const text = "issue a of z ; face 1 ; from 2000 - 1 - 1 to 2001 - 1 - 1 every 1 months ; count fixed ; adjust none ; record 0 ; rank 0 ; coupon 1 mille ; cap 1 ; majority 1 ; fast 1 ;"

func example() api.State {
	return api.State{
		Day: 9, Cash: []int{5, 0}, Purses: []int{3, 4}, Outside: -2,
		Lines:     []api.Line{{Text: text, Units: []int{1, 2}, Noted: []int{3, 0}, NotedAt: 4, Stages: []api.Breach{{Stage: 1, Since: 5}, {}}, Fast: -1, Called: 8, Price: 1010, Ended: true, Since: 2}, {Text: text, Units: []int{0, 0}, NotedAt: -1, Fast: 3, Called: -1}},
		Facts:     []api.Fact{{Issuer: 3, Name: "cash", Period: 6, Value: 500, Day: 7}},
		Payments:  []api.Payment{{Issue: 1, Seat: 1, Day: 4, Due: 9, Paid: 8, Period: -1}},
		Proposals: []api.Proposal{{Issue: 1, Text: "any", Day: 4, Units: []int{1, 0}, Votes: []api.Vote{{Seat: 1, Day: 4, Yes: true}, {Seat: 0, Day: 5}}, Closed: true}, {Units: []int{0, 0}}},
	}
}

func spoils() []func(s *api.State) {
	const much = 1000000000000000001
	return []func(s *api.State){
		func(s *api.State) { s.Day = -1 }, func(s *api.State) { s.Day = 200001 }, func(s *api.State) { s.Cash = make([]int, 61) }, func(s *api.State) { s.Purses = make([]int, 20001) }, func(s *api.State) { s.Cash[0] = -1 }, func(s *api.State) { s.Purses[0] = much }, func(s *api.State) { s.Cash[0] = much - 5 }, func(s *api.State) { s.Outside = much }, func(s *api.State) { s.Outside = -much },
		func(s *api.State) { s.Lines = slices.Repeat(s.Lines[:1], 401) }, func(s *api.State) { s.Lines[0].Text = "issue" }, func(s *api.State) { s.Lines[0].Units = []int{1} }, func(s *api.State) { s.Lines[0].Units[0] = -1 }, func(s *api.State) { s.Lines[0].Units[0] = api.MaxUnits + 1 }, func(s *api.State) { s.Lines[0].Noted = []int{1, 2, 3} }, func(s *api.State) { s.Lines[0].Noted[0] = -1 }, func(s *api.State) { s.Lines[0].NotedAt = -2 }, func(s *api.State) { s.Lines[0].NotedAt = 5001 },
		func(s *api.State) { s.Lines[0].Stages = make([]api.Breach, 501) }, func(s *api.State) { s.Lines[0].Stages[0].Stage = api.BrKinds }, func(s *api.State) { s.Lines[0].Stages[0].Stage = -1 }, func(s *api.State) { s.Lines[0].Stages[0].Since = -1 }, func(s *api.State) { s.Lines[0].Fast = -2 }, func(s *api.State) { s.Lines[0].Called = 200001 }, func(s *api.State) { s.Lines[0].Price = -1 }, func(s *api.State) { s.Lines[0].Price = 10001 }, func(s *api.State) { s.Lines[0].Since = -1 },
		func(s *api.State) { s.Facts[0].Issuer = -1 }, func(s *api.State) { s.Facts[0].Period = 8 }, func(s *api.State) { s.Payments = slices.Repeat(s.Payments, 100001) }, func(s *api.State) { s.Payments[0].Issue = 2 }, func(s *api.State) { s.Payments[0].Seat = 2 }, func(s *api.State) { s.Payments[0].Seat = -1 }, func(s *api.State) { s.Payments[0].Day = -1 }, func(s *api.State) { s.Payments[0].Due = much }, func(s *api.State) { s.Payments[0].Paid = 10 }, func(s *api.State) { s.Payments[0].Paid = -1 }, func(s *api.State) { s.Payments[0].Period = -2 }, func(s *api.State) { s.Payments[0].Period = 5001 },
		func(s *api.State) { s.Proposals = slices.Repeat(s.Proposals[1:], 10001) }, func(s *api.State) { s.Proposals[0].Issue = 2 }, func(s *api.State) { s.Proposals[0].Text = strings.Repeat("x", 4001) }, func(s *api.State) { s.Proposals[0].Day = -1 }, func(s *api.State) { s.Proposals[0].Units = nil }, func(s *api.State) { s.Proposals[0].Units[1] = -1 }, func(s *api.State) { s.Proposals[0].Votes = make([]api.Vote, 2001) }, func(s *api.State) { s.Proposals[0].Votes[0].Seat = 2 }, func(s *api.State) { s.Proposals[0].Votes[0].Day = -1 },
	}
}

func TestP47_1Right(t *testing.T) {
	if !state.Right(example()) || !state.Right(api.State{}) {
		t.Fatal("right")
	}
	for i, spoil := range spoils() {
		s := example()
		spoil(&s)
		if state.Right(s) || state.Text(s) != "" || state.Money(s) != 0 {
			t.Error(i)
		}
	}
	s := example()
	s.Cash[0] = 1000000000000000000 - 7
	if !state.Right(s) {
		t.Error("the greatest sum")
	}
}

func TestP47_1Text(t *testing.T) {
	if s := state.Text(api.State{}); s != "0;0;0;0;0;0;0;0;" {
		t.Error(s)
	}
	s := api.State{Day: 7, Cash: []int{5, 0}, Purses: []int{9}, Outside: -2, Facts: []api.Fact{{Issuer: 3, Name: "cash", Period: 6, Value: 500, Day: 7}}}
	if got := state.Text(s); got != "7;2;5;0;1;9;-2;0;1;3;4:cash,6;500;7;0;0;" {
		t.Error(got)
	}
	line := "2[1;2;]2[3;0;]4;2;1;5;0;0;-1;8;1010;1;2;"
	if got := state.Text(example()); !strings.Contains(got, line) || !strings.HasSuffix(got, "1;1;1;4;9;8;-1;2;1;3:any,4;2[1;0;]2;1;4;1;0;5;0;1;0;0:,0;2[0;0;]0;0;") {
		t.Error(got)
	}
	for _, bad := range []string{"", "0;0;0;0;0;0;0;0", "0;0;0;0;0;0;0;0;0;", "0;9999999999999999;0;", "-1;0;0;0;0;0;0;0;", "200001;0;0;0;0;0;0;0;", strings.Replace(state.Text(example()), "1010;1;2;", "1010;2;2;", 1), strings.Replace(state.Text(example()), "1;4;1;0;5;0;", "1;4;7;0;5;0;", 1)} {
		if s, e := state.Read(bad); e != api.ErrForm || !state.Same(s, api.State{}) {
			t.Error(bad)
		}
	}
}

func TestP47_2Same(t *testing.T) {
	for i, spoil := range spoils() {
		a, b := example(), example()
		if !state.Same(a, b) {
			t.Fatal("same")
		}
		spoil(&a)
		if state.Same(a, b) || !state.Same(a, state.Copy(a)) {
			t.Error(i)
		}
	}
	empty := api.State{Cash: []int{}, Purses: []int{}, Lines: []api.Line{}, Facts: []api.Fact{}, Payments: []api.Payment{}, Proposals: []api.Proposal{}}
	if !state.Same(empty, api.State{}) || !state.Same(api.State{Lines: []api.Line{{Noted: []int{}}}}, api.State{Lines: []api.Line{{}}}) || state.Same(api.State{Lines: []api.Line{{Ended: true}}}, api.State{Lines: []api.Line{{}}}) {
		t.Error("empty lists")
	}
}

func TestP47_3Money(t *testing.T) {
	if state.Money(example()) != 12 || state.Money(api.State{}) != 0 {
		t.Error(state.Money(example()))
	}
}

func TestP47_4Fresh(t *testing.T) {
	s := example()
	c := state.Copy(s)
	c.Cash[0], c.Purses[0], c.Lines[0].Units[0], c.Lines[0].Noted[0], c.Lines[0].Stages[0].Stage = 9, 9, 9, 9, 3
	c.Lines[1].Fast, c.Facts[0].Value, c.Payments[0].Paid, c.Proposals[0].Units[0], c.Proposals[0].Votes[0].Seat = 9, 9, 0, 9, 0
	if !state.Same(s, example()) {
		t.Error("shared")
	}
}

func TestP47_5Read(t *testing.T) {
	for _, s := range []api.State{example(), {}, {Outside: -1000000000000000000, Purses: []int{0}}} {
		back, e := state.Read(state.Text(s))
		if e != api.OK || !state.Same(back, s) {
			t.Error(e, back)
		}
	}
	seen := map[string]bool{state.Text(example()): true}
	for _, alter := range []func(s *api.State){func(s *api.State) { s.Day++ }, func(s *api.State) { s.Lines[0].Noted = nil }, func(s *api.State) { s.Lines[0].Ended = false }, func(s *api.State) { s.Proposals[1].Closed = true }, func(s *api.State) { s.Payments[0].Period = 0 }} {
		s := example()
		alter(&s)
		if seen[state.Text(s)] || !state.Right(s) {
			t.Error("one text for two states")
		}
		seen[state.Text(s)] = true
	}
}

func TestP47_6Moves(t *testing.T) {
	s := example()
	before := state.Money(s)
	s.Cash[0] -= 3
	s.Purses[1] += 3
	if state.Money(s) != before {
		t.Error("money")
	}
}

func TestP47_1Limits(t *testing.T) {
	s := api.State{Day: 200000, Cash: make([]int, 60), Purses: make([]int, 20000), Outside: 1000000000000000000}
	if !state.Right(s) {
		t.Error("money")
	}
	s = example()
	s.Lines = slices.Repeat(s.Lines, 200)
	s.Lines[0].NotedAt, s.Lines[0].Price, s.Lines[0].Stages = 5000, 10000, slices.Repeat([]api.Breach{{Stage: api.BrFast, Since: 200000}}, 500)
	s.Lines[0].Units = []int{api.MaxUnits, api.MaxUnits}
	s.Payments = slices.Repeat([]api.Payment{{Issue: 0, Seat: 0, Day: 200000, Due: 1000000000000000000, Paid: 1000000000000000000, Period: 5000}}, 100000)
	s.Proposals = slices.Repeat(s.Proposals[1:], 10000)
	s.Proposals[0] = api.Proposal{Issue: 399, Text: strings.Repeat("x", 4000), Units: []int{0, 0}, Votes: slices.Repeat([]api.Vote{{Seat: 1, Day: 200000}}, 2000)}
	if !state.Right(s) {
		t.Error("lists")
	}
}
