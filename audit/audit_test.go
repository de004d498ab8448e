package audit_test

import (
	"math/rand"
	"slices"
	"strconv"
	"testing"

	"consol/api"
	"consol/audit"
	"consol/office"
	"consol/state"
)

func text(name, issuer, covenants, more string, rank int) string {
	return "issue " + name + " of " + issuer + " ; face 1000 ; from 1900 - 1 - 1 to 1900 - 5 - 1 every 1 months ; count thirty ; adjust none ; record 2 ; rank " + strconv.Itoa(rank) + " ; coupon 120 mille ; cap 1000 ; " + covenants + " " + more + " majority 667 ; fast 250 ;"
}

const covenant = "covenant c must fact debt < 5 coins grace 2 ;"

func setup() api.Setup {
	return api.Setup{
		Issuers: []string{"x", "y"}, Cash: []int{100, 50000},
		Seats: []api.Seat{{Parent: -1, Owner: -1}, {Parent: -1, Owner: -1}, {Parent: -1, Owner: -1}, {Parent: 2, Owner: -1}, {Parent: 2, Owner: 1}, {Parent: -1, Owner: 0}},
		Texts: []string{text("a", "x", covenant, "cross 1000 ;", 0), text("b", "x", "", "cross 1000 ; call 1900 - 1 - 2 at 1001 ;", 0), text("c", "y", "", "favour a ; sink 200 ;", 0)},
		Units: [][]int{{10, 0, 0, 5, 3, 2}, {10, 0, 0, 5, 3, 2}, {10, 0, 0, 5, 3, 2}},
	}
}

func day(n int) api.Input { return api.Input{Kind: api.InDay, N: n} }

func lead(t *testing.T, inputs ...api.Input) api.State {
	t.Helper()
	st, errors, e := office.All(setup(), inputs)
	for i, x := range errors {
		if x != api.OK {
			t.Fatal(inputs[i], x)
		}
	}
	if e != api.OK {
		t.Fatal(e)
	}
	return st
}

func TestP49_1Check(t *testing.T) {
	inputs := []api.Input{day(3), {Kind: api.InCash, A: 1, N: 5}, {Kind: api.InCash, A: 9, N: 5}, day(30)}
	st, _, _ := office.All(setup(), inputs)
	var texts []string
	for _, in := range inputs {
		texts = append(texts, office.Text(in))
	}
	if e := audit.Check(setup(), texts, state.Text(st)); e != api.OK {
		t.Error(e)
	}
	if e := audit.Check(setup(), texts[:3], state.Text(st)); e != api.ErrCheck {
		t.Error(e)
	}
	if e := audit.Check(setup(), texts, state.Text(st)+" "); e != api.ErrCheck {
		t.Error(e)
	}
	if e := audit.Check(setup(), append(texts, "0;0;"), state.Text(st)); e != api.ErrForm {
		t.Error(e)
	}
	if e := audit.Check(setup(), make([]string, 10001), ""); e != api.ErrArg {
		t.Error(e)
	}
	bad := setup()
	bad.Cash = nil
	if e := audit.Check(bad, []string{"?"}, ""); e != api.ErrArg {
		t.Error(e)
	}
}

// forms are changes after which a state does not have the form.
func forms() []func(st *api.State) {
	return []func(st *api.State){
		func(st *api.State) { st.Day = -1 }, func(st *api.State) { st.Lines = st.Lines[:2] }, func(st *api.State) { st.Cash = st.Cash[:1] }, func(st *api.State) { st.Lines[0].Stages = nil }, func(st *api.State) { st.Lines[0].Text = text("a", "z", covenant, "", 0) },
		func(st *api.State) { st.Lines[1].Units = []int{10, 0, 5, 0, 3, 2} }, func(st *api.State) { st.Lines[1].Units = []int{api.MaxUnits, 1, 0, 0, 0, 0} }, func(st *api.State) { st.Proposals = []api.Proposal{{Units: []int{0, 0, 1, 0, 0, 0}}} },
		func(st *api.State) {
			st.Purses = append(st.Purses, 0)
			for i := range st.Lines {
				st.Lines[i].Units, st.Lines[i].Noted = append(st.Lines[i].Units, 0), nil
			}
		},
	}
}

func TestP49_2Money(t *testing.T) {
	st := lead(t, day(31), api.Input{Kind: api.InCash, A: 1, N: 5}, day(3))
	if !audit.Money(setup(), st) {
		t.Fatal("money")
	}
	for i, spoil := range []func(st *api.State){func(st *api.State) { st.Cash[0]++ }, func(st *api.State) { st.Purses[0]-- }, func(st *api.State) { st.Outside++ }} {
		x := state.Copy(st)
		spoil(&x)
		if audit.Money(setup(), x) {
			t.Error(i)
		}
	}
	for i, spoil := range forms() {
		x := state.Copy(st)
		spoil(&x)
		if audit.Money(setup(), x) || audit.Paid(setup(), x) || audit.Step(setup(), st, api.Input{Kind: api.InCash}, x) || audit.Step(setup(), x, api.Input{Kind: api.InCash}, st) {
			t.Error(i)
		}
	}
	bad := setup()
	bad.Issuers[0] = "1"
	if audit.Money(bad, st) || audit.Paid(bad, st) || audit.Step(bad, st, api.Input{Kind: api.InCash}, st) {
		t.Error("setup")
	}
	if !audit.Step(setup(), st, api.Input{Kind: api.InCash}, st) {
		t.Error("no coin")
	}
}

func TestP49_3Paid(t *testing.T) {
	st := lead(t, day(34))
	if !audit.Paid(setup(), st) || len(st.Payments) < 8 {
		t.Fatal("paid")
	}
	for i, spoil := range []func(st *api.State){
		func(st *api.State) { st.Payments[0].Seat = 5 }, func(st *api.State) { st.Payments[0].Day = 0 }, func(st *api.State) { st.Payments[0].Day = 35 }, func(st *api.State) { st.Payments[0].Due = api.MaxMoney + 1 }, func(st *api.State) { st.Payments[0].Paid++ }, func(st *api.State) { st.Payments = append(st.Payments, st.Payments[0]) }, func(st *api.State) { st.Payments = st.Payments[1:] }, func(st *api.State) { st.Purses[0]++ }, func(st *api.State) { st.Purses[4]++ }, func(st *api.State) { st.Payments[0].Seat = 1 },
	} {
		x := state.Copy(st)
		spoil(&x)
		if audit.Paid(setup(), x) {
			t.Error(i)
		}
	}
	more := state.Copy(st)
	p := more.Payments[0]
	p.Period, p.Due, p.Paid = -1, 7, 0
	more.Payments = append(more.Payments, p)
	if !audit.Paid(setup(), more) {
		t.Error("another period")
	}
	for i := range 10000 {
		p.Period, p.Due, p.Paid = i%5000, api.MaxMoney, api.MaxMoney
		p.Day = 1 + i/5000
		more.Payments = append(more.Payments, p)
	}
	if audit.Paid(setup(), more) {
		t.Error("great sums")
	}
}

// history is a journal in which much happens.
func history() []api.Input {
	in := func(kind, a, b, c, n int) api.Input { return api.Input{Kind: kind, A: a, B: b, C: c, N: n} }
	return []api.Input{
		day(2), in(api.InCash, 1, 0, 0, 90), {Kind: api.InFact, Fact: api.Fact{Issuer: 1, Name: "debt", Period: 1, Value: 9}}, in(api.InTrade, 0, 0, 1, 4), day(4),
		{Kind: api.InPropose, A: 1, Text: text("b", "x", covenant, "cross 1000 ;", 2)}, in(api.InVote, 0, 0, 0, 1), in(api.InVote, 0, 3, 0, 1), day(5), in(api.InClose, 0, 0, 0, 0), day(24),
		{Kind: api.InNotice, A: 0, Seats: []int{0, 3}}, day(1), in(api.InCash, 0, 0, 0, 90000), day(3), in(api.InTrade, 2, 0, 3, 2), {Kind: api.InNotice, A: 1, Seats: []int{0}}, day(90),
	}
}

// steps returns the states of a history, day by day, with the inputs between them.
func steps(t *testing.T, l []api.Input) ([]api.State, []api.Input) {
	t.Helper()
	st, _ := office.Begin(setup())
	states := []api.State{st}
	var inputs []api.Input
	for _, in := range l {
		n := 1
		if in.Kind == api.InDay {
			n, in.N = in.N, 1
		}
		for range n {
			next, e := office.Take(setup(), st, in)
			if e != api.OK {
				t.Fatal(in, e)
			}
			inputs, states, st = append(inputs, in), append(states, next), next
		}
	}
	return states, inputs
}

func TestP49_4Step(t *testing.T) {
	states, inputs := steps(t, history())
	seen := map[int]bool{}
	for i, in := range inputs {
		if !audit.Step(setup(), states[i], in, states[i+1]) {
			t.Fatal(i, in)
		}
		for _, l := range states[i+1].Lines {
			for k, b := range l.Stages {
				seen[b.Stage*2+min(k, 1)] = true
			}
		}
	}
	if len(seen) < 7 {
		t.Error("too little happens", seen)
	}
	if audit.Step(setup(), states[0], day(2), states[2]) || audit.Step(setup(), states[0], api.Input{Kind: -1}, states[0]) {
		t.Error("input")
	}
}

// find returns the first step with a kind of input after some others.
func find(inputs []api.Input, kind, skip int) int {
	for i, in := range inputs {
		if in.Kind == kind {
			if skip == 0 {
				return i
			}
			skip--
		}
	}
	return -1
}

func TestP49_4Unjustified(t *testing.T) {
	states, inputs := steps(t, history())
	try := func(name string, i int, before, after func(st *api.State), in func(in *api.Input)) {
		t.Helper()
		b, a, x := state.Copy(states[i]), state.Copy(states[i+1]), inputs[i]
		if before != nil {
			before(&b)
		}
		if after != nil {
			after(&a)
		}
		if in != nil {
			in(&x)
		}
		if audit.Step(setup(), b, x, a) {
			t.Error(name)
		}
	}
	cash, trade, closing, notice, second := find(inputs, api.InCash, 0), find(inputs, api.InTrade, 0), find(inputs, api.InClose, 0), find(inputs, api.InNotice, 0), find(inputs, api.InNotice, 1)
	try("day", 0, nil, func(st *api.State) { st.Day++ }, nil)
	try("a day without a day", cash, nil, func(st *api.State) { st.Day++ }, nil)
	try("coins", cash, nil, func(st *api.State) { st.Cash[0]++ }, nil)
	try("outside", cash, nil, func(st *api.State) { st.Outside++ }, nil)
	try("less came", cash, nil, nil, func(in *api.Input) { in.N-- })
	try("money of a day", 0, nil, func(st *api.State) { st.Purses[0]++ }, nil)
	try("units", trade, nil, func(st *api.State) { st.Lines[0].Units[0]++ }, nil)
	try("another line", trade, nil, nil, func(in *api.Input) { in.A = 1 })
	try("more units on a day", 0, nil, func(st *api.State) { st.Lines[0].Units[0]++ }, nil)
	try("a text on a day", 0, nil, func(st *api.State) { st.Lines[0].Text = text("a", "x", "", "", 0) }, nil)
	try("since", 0, nil, func(st *api.State) { st.Lines[0].Since = 1 }, nil)
	try("too few votes", closing, func(st *api.State) { st.Proposals[0].Votes = st.Proposals[0].Votes[:1] }, nil, nil)
	try("a vote taken back", closing, func(st *api.State) { st.Proposals[0].Votes = append(st.Proposals[0].Votes, api.Vote{Seat: 0}) }, nil, nil)
	try("closed before", closing, func(st *api.State) { st.Proposals[0].Closed = true }, nil, nil)
	try("another text", closing, func(st *api.State) { st.Proposals[0].Text += " " }, nil, nil)
	try("another proposal", closing, nil, nil, func(in *api.Input) { in.A = 1 })
	try("another issue", closing, func(st *api.State) { st.Proposals[0].Issue = 0 }, nil, nil)
	try("another day", closing, nil, func(st *api.State) { st.Lines[1].Since-- }, nil)
	try("first stage of a change", closing, nil, func(st *api.State) { st.Lines[1].Stages[0].Stage = api.BrDefault }, nil)
	try("fast without a notice", 0, nil, func(st *api.State) { st.Lines[0].Fast = st.Day }, nil)
	try("fast on another day", notice, nil, func(st *api.State) { st.Lines[0].Fast-- }, nil)
	try("too few units", notice, nil, nil, func(in *api.Input) { in.Seats = []int{5} })
	try("no seats", notice, nil, nil, func(in *api.Input) { in.Seats = []int{0, 99}; in.Seats = in.Seats[1:] })
	try("no default", notice, func(st *api.State) { st.Lines[0].Stages[0].Stage = api.BrBreach }, nil, nil)
	try("another line's notice", notice, nil, nil, func(in *api.Input) { in.A = 2 })
	try("a default that spreads to another issuer", notice, nil, func(st *api.State) { st.Lines[2].Stages[0] = api.Breach{Stage: api.BrDefault, Since: st.Day} }, nil)
	try("ended on a notice", second, nil, func(st *api.State) { st.Lines[2].Ended = true }, nil)
	last := len(inputs) - 1
	try("not ended any more", last, nil, func(st *api.State) { st.Lines[0].Ended = false }, nil)
	try("units of an ended line", last, nil, func(st *api.State) { st.Lines[0].Units[0] = 1 }, nil)
	try("ended with units", 0, nil, func(st *api.State) { st.Lines[0].Ended = true }, nil)
	for i, b := range []api.Breach{{Stage: api.BrDefault, Since: 1}, {Stage: api.BrFast, Since: 1}, {Stage: api.BrBreach, Since: 0}} {
		try("first stage "+strconv.Itoa(i), 0, nil, func(st *api.State) { st.Lines[0].Stages[0] = b }, nil)
	}
	try("stage of a promise", 0, nil, func(st *api.State) { st.Lines[0].Stages[1] = api.Breach{Stage: api.BrFast, Since: 1} }, nil)
	try("a stage more", 0, nil, func(st *api.State) { st.Lines[0].Stages = append(st.Lines[0].Stages, api.Breach{}) }, nil)
	try("a breach with cash", cash, nil, func(st *api.State) { st.Lines[0].Stages[1] = api.Breach{Stage: api.BrBreach, Since: st.Day} }, nil)
	try("a default too early", 31, func(st *api.State) { st.Lines[0].Stages[0].Since = st.Day - 1 }, func(st *api.State) { st.Lines[0].Stages[0] = api.Breach{Stage: api.BrDefault, Since: st.Day} }, nil)
	try("a cure of a default", last, func(st *api.State) { st.Lines[2].Stages[0] = api.Breach{Stage: api.BrDefault} }, func(st *api.State) { st.Lines[2].Stages[0] = api.Breach{} }, nil)
}

func TestP49_4Justified(t *testing.T) {
	states, inputs := steps(t, history())
	allow := func(name string, i int, before, after func(st *api.State)) {
		t.Helper()
		b, a := state.Copy(states[i]), state.Copy(states[i+1])
		before(&b)
		after(&a)
		if !audit.Step(setup(), b, inputs[i], a) {
			t.Error(name)
		}
	}
	nothing := func(st *api.State) {}
	allow("a promise in default at once", 0, nothing, func(st *api.State) { st.Lines[0].Stages[1] = api.Breach{Stage: api.BrDefault, Since: 1} })
	allow("a breach", 0, nothing, func(st *api.State) { st.Lines[0].Stages[0] = api.Breach{Stage: api.BrBreach, Since: 1} })
	allow("a cure", 0, func(st *api.State) { st.Lines[0].Stages[0] = api.Breach{Stage: api.BrBreach} }, nothing)
	allow("what the day sinks", 0, nothing, func(st *api.State) { st.Lines[0].Units[0]-- })
}

func TestP49_5Pure(t *testing.T) {
	st := lead(t, day(34))
	c := state.Copy(st)
	audit.Money(setup(), c)
	audit.Paid(setup(), c)
	audit.Step(setup(), c, day(1), c)
	if !state.Same(c, st) {
		t.Error("changed")
	}
}

func random(r *rand.Rand) []api.Input {
	var l []api.Input
	for range 30 {
		line, seat := r.Intn(3), r.Intn(6)
		switch r.Intn(10) {
		case 0:
			l = append(l, api.Input{Kind: api.InCash, A: r.Intn(2), N: r.Intn(500)})
		case 1:
			l = append(l, api.Input{Kind: api.InFact, Fact: api.Fact{Issuer: r.Intn(2), Name: "debt", Period: r.Intn(20), Value: r.Intn(10)}})
		case 2:
			l = append(l, api.Input{Kind: api.InTrade, A: line, B: seat, C: r.Intn(6), N: 1 + r.Intn(5)})
		case 3:
			l = append(l, api.Input{Kind: api.InNotice, A: line, Seats: []int{0, 3}})
		case 4:
			l = append(l, api.Input{Kind: api.InCall, A: 1, N: r.Intn(60)})
		case 5:
			l = append(l, api.Input{Kind: api.InPropose, A: 0, Text: text("a", "x", "", "cross 0 ;", r.Intn(3))})
		case 6:
			l = append(l, api.Input{Kind: api.InVote, A: r.Intn(2), B: seat, N: 1}, api.Input{Kind: api.InVote, A: r.Intn(2), N: 1})
		case 7:
			l = append(l, api.Input{Kind: api.InClose, A: r.Intn(2)})
		default:
			l = append(l, day(1+r.Intn(12)))
		}
	}
	return l
}

func TestP49_6Honest(t *testing.T) {
	r := rand.New(rand.NewSource(1))
	for range 30 {
		st, _ := office.Begin(setup())
		var texts []string
		for _, in := range random(r) {
			n := 1
			if in.Kind == api.InDay {
				n, in.N = in.N, 1
			}
			for range n {
				texts = append(texts, office.Text(in))
				next, e := office.Take(setup(), st, in)
				if e == api.OK && !audit.Step(setup(), st, in, next) {
					t.Fatal(in)
				}
				st = next
			}
		}
		if !audit.Money(setup(), st) || !audit.Paid(setup(), st) || audit.Check(setup(), texts, state.Text(st)) != api.OK {
			t.Fatal("an honest state")
		}
		other := state.Copy(st)
		other.Cash[0]++
		if audit.Check(setup(), texts, state.Text(other)) != api.ErrCheck {
			t.Fatal("another text")
		}
	}
}

func TestP49_7Found(t *testing.T) {
	st := lead(t, day(40))
	next, _ := office.Take(setup(), st, day(1))
	for i, spoil := range []func(st *api.State){
		func(st *api.State) { st.Cash[0]++ }, func(st *api.State) { st.Payments = st.Payments[:len(st.Payments)-3] }, func(st *api.State) { st.Lines[2].Text = text("c", "y", "", "", 0) }, func(st *api.State) { st.Lines[2].Fast = st.Day }, func(st *api.State) { st.Lines[2].Stages[0] = api.Breach{Stage: api.BrDefault, Since: st.Day} },
		func(st *api.State) {
			p := st.Payments[len(st.Payments)-1]
			p.Period, p.Due, p.Paid = 77, 5, 5
			st.Payments = append(st.Payments, p)
		},
	} {
		x := state.Copy(next)
		spoil(&x)
		if audit.Money(setup(), x) && audit.Paid(setup(), x) && audit.Step(setup(), st, day(1), x) {
			t.Error(i)
		}
	}
	if !audit.Step(setup(), st, day(1), next) || slices.Equal(st.Payments, nil) {
		t.Error("honest")
	}
}

func TestP49_3Limits(t *testing.T) {
	st := lead(t, day(34))
	x := state.Copy(st)
	p := x.Payments[0]
	p.Day, p.Due, p.Paid, p.Period = 1, api.MaxMoney, 7, 5000
	x.Payments = append(x.Payments, p)
	p.Day, p.Paid = 34, 1
	x.Payments = append(x.Payments, p)
	x.Purses[p.Seat] += 8
	if !Paid(x) {
		t.Error("limits")
	}
	x.Payments[len(x.Payments)-1].Day = 35
	if Paid(x) {
		t.Error("a later day")
	}
}

// Paid asks for the setup of these tests.
func Paid(st api.State) bool { return audit.Paid(setup(), st) }

func TestP49_4Exactly(t *testing.T) {
	states, inputs := steps(t, history())
	closing, notice := find(inputs, api.InClose, 0), find(inputs, api.InNotice, 0)
	step := func(i int, before, after func(st *api.State), in func(in *api.Input)) bool {
		b, a, x := state.Copy(states[i]), state.Copy(states[i+1]), inputs[i]
		before(&b)
		after(&a)
		in(&x)
		return audit.Step(setup(), b, x, a)
	}
	nothing := func(st *api.State) {}
	same := func(in *api.Input) {}
	units := func(l ...int) func(st *api.State) {
		return func(st *api.State) { st.Proposals[0].Units = l }
	}
	// Seats 0 and 3 have consented; 667 per mille are needed.
	if !step(closing, units(600, 333, 0, 67, 0, 0), nothing, same) || step(closing, units(600, 334, 0, 66, 0, 0), nothing, same) || step(closing, units(0, 0, 0, 0, 0, 0), nothing, same) {
		t.Error("majority")
	}
	line := func(l ...int) func(st *api.State) { return func(st *api.State) { st.Lines[0].Units = l } }
	// Seats 0 and 3 give notice; 250 per mille are needed.
	if !step(notice, line(1, 6, 0, 1, 0, 9), line(1, 6, 0, 1, 0, 9), same) || step(notice, line(1, 7, 0, 1, 0, 9), line(1, 7, 0, 1, 0, 9), same) {
		t.Error("notice")
	}
	// A default of payments 3 days after the breach, and not before.
	for since, want := range map[int]bool{30: true, 31: true, 32: false} {
		i := slices.IndexFunc(states, func(st api.State) bool { return st.Day == 34 }) - 1
		before := func(st *api.State) { st.Lines[0].Stages[0] = api.Breach{Stage: api.BrBreach, Since: since} }
		after := func(st *api.State) { st.Lines[0].Stages[0] = api.Breach{Stage: api.BrDefault, Since: 34} }
		if step(i, before, after, same) != want {
			t.Error(since)
		}
	}
	// BrFast of one line on the notice of another one, or without a default before.
	fast := func(k int) func(st *api.State) {
		return func(st *api.State) { st.Lines[1].Stages[k] = api.Breach{Stage: api.BrFast, Since: st.Day} }
	}
	if step(notice, func(st *api.State) { st.Lines[1].Stages[0] = api.Breach{Stage: api.BrDefault} }, fast(0), same) {
		t.Error("another line")
	}
	if step(notice, func(st *api.State) { st.Lines[0].Stages[1] = api.Breach{} }, func(st *api.State) { st.Lines[0].Stages[1] = api.Breach{Stage: api.BrFast, Since: st.Day} }, same) {
		t.Error("no default before")
	}
	// A promise that is in default after an acceleration, and on a day on which nothing is told.
	was := func(st *api.State) { st.Lines[0].Stages[1] = api.Breach{Stage: api.BrFast} }
	if step(0, was, func(st *api.State) { st.Lines[0].Stages[1] = api.Breach{Stage: api.BrDefault, Since: 1} }, same) {
		t.Error("after an acceleration")
	}
	cash := find(inputs, api.InCash, 0)
	if step(cash, nothing, func(st *api.State) { st.Lines[0].Stages[1] = api.Breach{Stage: api.BrDefault, Since: st.Day} }, same) {
		t.Error("a default with cash")
	}
	// A default spreads from a line that has not ended.
	spread := func(st *api.State) {
		st.Lines[1].Stages[0] = api.Breach{Stage: api.BrDefault, Since: st.Day}
		st.Lines[0].Fast = st.Day
	}
	calm := func(st *api.State) { st.Lines[1].Stages[0] = api.Breach{} }
	if !step(notice, calm, spread, same) {
		t.Error("spread")
	}
	if step(notice, func(st *api.State) { calm(st); st.Lines[0].Ended = true; st.Lines[0].Fast = st.Day }, func(st *api.State) { spread(st); st.Lines[0].Ended = true }, same) {
		t.Error("spread from a line that has ended")
	}
}

func TestP49_1Limits(t *testing.T) {
	texts := slices.Repeat([]string{"1;1;0;"}, 10000)
	st, _ := office.Begin(setup())
	if e := audit.Check(setup(), texts, state.Text(st)); e != api.OK {
		t.Error("10000 inputs", e)
	}
}

func TestP49_4Alone(t *testing.T) {
	states, inputs := steps(t, history())
	i := find(inputs, api.InNotice, 0)
	b, a := state.Copy(states[i]), state.Copy(states[i])
	if !audit.Step(setup(), b, inputs[i], a) {
		t.Fatal("nothing changes")
	}
	b.Lines[1].Stages[0] = api.Breach{}
	a.Lines[1].Stages[0] = api.Breach{Stage: api.BrDefault, Since: a.Day}
	if audit.Step(setup(), b, inputs[i], a) {
		t.Error("a default that spreads from nowhere")
	}
}

func TestP49_4SinceAlone(t *testing.T) {
	states, inputs := steps(t, history())
	last := len(inputs) - 1
	closing := find(inputs, api.InClose, 0)
	// change takes the breach k of line 1 before and after a step.
	change := func(i, k int, before, after api.Breach) bool {
		b, a := state.Copy(states[i]), state.Copy(states[i+1])
		for len(b.Lines[1].Stages) <= k {
			b.Lines[1].Stages = append(b.Lines[1].Stages, api.Breach{})
			a.Lines[1].Stages = append(a.Lines[1].Stages, api.Breach{})
		}
		b.Lines[1].Stages[k], a.Lines[1].Stages[k] = before, after
		return audit.Step(setup(), b, inputs[i], a)
	}
	for _, i := range []int{0, last, find(inputs, api.InCash, 0), find(inputs, api.InFact, 0), find(inputs, api.InTrade, 0), find(inputs, api.InPropose, 0), find(inputs, api.InVote, 0), find(inputs, api.InNotice, 0)} {
		for k := range 2 {
			for stage := api.BrNone; stage <= api.BrFast; stage++ {
				if !change(i, k, api.Breach{Stage: stage, Since: 1}, api.Breach{Stage: stage}) || !change(i, k, api.Breach{Stage: stage}, api.Breach{Stage: stage, Since: 1}) {
					t.Error("Since alone", i, k, stage)
				}
			}
		}
	}
	// Where the stage differs, too, Since is the Day, and 0 of a stage that is cured.
	if change(0, 0, api.Breach{Stage: api.BrBreach}, api.Breach{Since: 1}) || change(0, 0, api.Breach{}, api.Breach{Stage: api.BrBreach}) {
		t.Error("Since of another stage")
	}
	// A change of the text leaves the first breach as it is, with its Since, and asks nothing of the others.
	if !change(closing, 1, api.Breach{Since: 1}, api.Breach{}) || change(closing, 0, api.Breach{Since: 1}, api.Breach{}) {
		t.Error("Since at the change of a text")
	}
}
