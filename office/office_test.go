package office_test

import (
	"math/rand"
	"slices"
	"strconv"
	"strings"
	"testing"

	"consol/api"
	"consol/clear"
	"consol/frac"
	"consol/office"
	"consol/state"
)

// terms are the parts of a text that differ.
type terms struct {
	name, issuer, dates, adjust, lets, coupon, covenants, more string
	face, record, rank, majority, fast                         int
}

func base(name, issuer string) terms {
	return terms{name: name, issuer: issuer, dates: "from 1900 - 1 - 1 to 1900 - 5 - 1 every 1 months", adjust: "none", coupon: "120 mille", face: 1000, record: 2, majority: 667, fast: 250}
}

func (t terms) text() string {
	n := strconv.Itoa
	return "issue " + t.name + " of " + t.issuer + " ; face " + n(t.face) + " ; " + t.dates + " ; count thirty ; adjust " + t.adjust + " ; record " + n(t.record) + " ; rank " + n(t.rank) + " ; " + t.lets +
		" coupon " + t.coupon + " ; cap 10000 ; " + t.covenants + " " + t.more + " majority " + n(t.majority) + " ; fast " + n(t.fast) + " ;"
}

// setup has the issuers x and y; the seats 0 and 1 are free, 2 is a nominee of 3 (free) and 4 (of y), 5 is of x.
func setup(texts ...terms) api.Setup {
	s := api.Setup{Issuers: []string{"x", "y"}, Cash: []int{100000, 50000}, Seats: []api.Seat{{Parent: -1, Owner: -1}, {Parent: -1, Owner: -1}, {Parent: -1, Owner: -1}, {Parent: 2, Owner: -1}, {Parent: 2, Owner: 1}, {Parent: -1, Owner: 0}}}
	for _, t := range texts {
		s.Texts = append(s.Texts, t.text())
		s.Units = append(s.Units, []int{10, 0, 0, 5, 3, 2})
	}
	return s
}

func day(n int) api.Input { return api.Input{Kind: api.InDay, N: n} }

func cash(issuer, n int) api.Input { return api.Input{Kind: api.InCash, A: issuer, N: n} }

func report(issuer int, name string, period, value int) api.Input {
	return api.Input{Kind: api.InFact, Fact: api.Fact{Issuer: issuer, Name: name, Period: period, Value: value}}
}

func move(line, from, to, n int) api.Input {
	return api.Input{Kind: api.InTrade, A: line, B: from, C: to, N: n}
}

func propose(line int, text string) api.Input {
	return api.Input{Kind: api.InPropose, A: line, Text: text}
}

func ballot(proposal, seat, yes int) api.Input {
	return api.Input{Kind: api.InVote, A: proposal, B: seat, N: yes}
}

func closed(proposal int) api.Input { return api.Input{Kind: api.InClose, A: proposal} }

func notice(line int, seats ...int) api.Input {
	return api.Input{Kind: api.InNotice, A: line, Seats: seats}
}

func call(line, day int) api.Input { return api.Input{Kind: api.InCall, A: line, N: day} }

// play takes inputs, all of which have to be taken.
func play(t *testing.T, s api.Setup, l ...api.Input) api.State {
	t.Helper()
	st, errors, e := office.All(s, l)
	if e != api.OK {
		t.Fatal(e)
	}
	for i, e := range errors {
		if e != api.OK {
			t.Fatal(i, l[i], e)
		}
	}
	return st
}

// refused takes an input that has to have an error, and to change nothing.
func refused(t *testing.T, s api.Setup, st api.State, in api.Input, want api.Errno) {
	t.Helper()
	got, e := office.Take(s, st, in)
	if e != want || !state.Same(got, st) {
		t.Error(in, e)
	}
}

func TestP48_1Begin(t *testing.T) {
	promising := base("a", "x")
	promising.covenants = "covenant one must fact debt < 5 coins grace 2 ; covenant two must true grace 0 ;"
	favouring := base("b", "y")
	favouring.more = "favour a ;"
	s := setup(promising, favouring)
	st, e := office.Begin(s)
	if e != api.OK || st.Day != 0 || st.Outside != 0 || !slices.Equal(st.Cash, s.Cash) || !slices.Equal(st.Purses, make([]int, 6)) || len(st.Lines) != 2 || len(st.Lines[0].Stages) != 3 || len(st.Lines[1].Stages) != 3 {
		t.Fatal(st, e)
	}
	l := st.Lines[1]
	if l.Text != s.Texts[1] || !slices.Equal(l.Units, s.Units[1]) || l.Fast != -1 || l.Called != -1 || l.NotedAt != -1 || len(l.Noted) != 0 || l.Ended || l.Since != 0 || l.Price != 0 || l.Stages[0] != (api.Breach{}) || !state.Right(st) {
		t.Error(l)
	}
	if _, e := office.Begin(api.Setup{Issuers: []string{"x"}, Cash: []int{0}}); e != api.OK {
		t.Error("no texts", e)
	}
}

func TestP48_1Setups(t *testing.T) {
	for i, spoil := range []func(s *api.Setup){
		func(s *api.Setup) { s.Calendar.Rest = []int{9} }, func(s *api.Setup) { s.Issuers, s.Cash, s.Texts, s.Units, s.Seats = nil, nil, nil, nil, nil }, func(s *api.Setup) { s.Issuers[1] = "x" }, func(s *api.Setup) { s.Issuers[1] = "of" }, func(s *api.Setup) { s.Cash = s.Cash[:1] }, func(s *api.Setup) { s.Cash[0] = -1 }, func(s *api.Setup) { s.Cash[0] = api.MaxMoney + 1 },
		func(s *api.Setup) { s.Seats[0].Parent = 5 }, func(s *api.Setup) { s.Seats[0].Owner = 2 }, func(s *api.Setup) { s.Texts[0] = "issue" }, func(s *api.Setup) { s.Issuers[0] = "z" }, func(s *api.Setup) { s.Texts = append(s.Texts, s.Texts[0]) }, func(s *api.Setup) { s.Texts[1] = s.Texts[0] }, func(s *api.Setup) { s.Units = s.Units[:1] }, func(s *api.Setup) { s.Units[0] = s.Units[0][:3] }, func(s *api.Setup) { s.Units[0][2] = 1 }, func(s *api.Setup) { s.Units[0][0] = api.MaxUnits },
		func(s *api.Setup) { x := base("a", "x"); x.coupon = "rate a"; s.Texts[0] = x.text() }, func(s *api.Setup) { x := base("a", "x"); x.more = "favour q ;"; s.Texts[0] = x.text() }, func(s *api.Setup) { x := base("a", "x"); x.record = 40; s.Texts[0] = x.text() },
		func(s *api.Setup) { s.Calendar.Days = nil; x := base("a", "x"); x.record = 31; s.Texts[0] = x.text() }, func(s *api.Setup) {
			x := base("a", "x")
			x.record, x.dates = 30, "from 1900 - 2 - 1 to 1900 - 5 - 1 every 1 months"
			s.Texts[0] = x.text()
		},
	} {
		s := setup(base("a", "x"), base("b", "y"))
		spoil(&s)
		if st, e := office.Begin(s); e != api.ErrArg || !state.Same(st, api.State{}) {
			t.Error(i, e)
		}
		if _, _, e := office.All(s, nil); e != api.ErrArg {
			t.Error(i, e)
		}
		if _, e := office.Take(s, api.State{}, day(1)); e != api.ErrArg {
			t.Error(i, e)
		}
	}
	// 20 covenants of each of 25 issues hold for the last one: 500 promises.
	chain := func(n int) api.Setup {
		var l []terms
		for i := range n {
			x := base("n"+strconv.Itoa(i), "x")
			for k := range 20 {
				x.covenants += "covenant c" + strconv.Itoa(k) + " must true grace 0 ; "
			}
			if i > 0 {
				x.more = "favour n" + strconv.Itoa(i-1) + " ;"
			}
			l = append(l, x)
		}
		return setup(l...)
	}
	if _, e := office.Begin(chain(24)); e != api.OK {
		t.Error("480 promises", e)
	}
	if _, e := office.Begin(chain(25)); e != api.ErrArg {
		t.Error("500 promises", e)
	}
}

func TestP48_2Cash(t *testing.T) {
	s := setup(base("a", "x"))
	st := play(t, s, cash(1, 70))
	if st.Cash[1] != 50070 || st.Outside != 70 {
		t.Error(st)
	}
	refused(t, s, st, cash(2, 1), api.ErrNone)
	refused(t, s, st, cash(1, api.MaxMoney), api.ErrRange)
	refused(t, s, st, cash(60, 1), api.ErrArg)
	s.Issuers, s.Cash = nil, nil
	for i := range 60 {
		s.Issuers = append(s.Issuers, "x"+strings.Repeat("i", i%10)+strconv.Itoa(i/10))
		s.Cash = append(s.Cash, 0)
	}
	s.Issuers[0], s.Issuers[1] = "x", "y"
	var l []api.Input
	for i := range 60 {
		l = append(l, cash(i, api.MaxMoney))
	}
	st = play(t, s, l...)
	if st.Outside != 60*api.MaxMoney {
		t.Error(st.Outside)
	}
}

func TestP48_2Facts(t *testing.T) {
	s := setup(base("a", "x"))
	st := play(t, s, day(5), report(1, "debt", 3, 40))
	if !slices.Equal(st.Facts, []api.Fact{{Issuer: 1, Name: "debt", Period: 3, Value: 40, Day: 5}}) {
		t.Error(st.Facts)
	}
	refused(t, s, st, report(2, "debt", 3, 40), api.ErrNone)
	refused(t, s, st, report(1, "debt", 6, 40), api.ErrArg)
	refused(t, s, st, report(1, "let", 3, 40), api.ErrArg)
}

func TestP48_2Trades(t *testing.T) {
	s := setup(base("a", "x"))
	st := play(t, s, move(0, 0, 1, 4))
	if !slices.Equal(st.Lines[0].Units, []int{6, 4, 0, 5, 3, 2}) {
		t.Error(st.Lines[0].Units)
	}
	refused(t, s, st, move(1, 0, 1, 4), api.ErrNone)
	refused(t, s, st, move(0, 0, 1, 7), api.ErrFew)
	refused(t, s, st, move(0, 0, 2, 1), api.ErrNone)
	refused(t, s, st, move(0, 0, 9, 1), api.ErrNone)
}

// due returns the payments as seat, day, due, paid and period.
func due(st api.State) [][5]int {
	var l [][5]int
	for _, p := range st.Payments {
		l = append(l, [5]int{p.Seat, p.Day, p.Due, p.Paid, p.Period})
	}
	return l
}

func TestP48_2Coupons(t *testing.T) {
	s := setup(base("a", "x"))
	// 31 is 1 February; the holders were noted two days before, on 29.
	st := play(t, s, day(29), move(0, 0, 1, 4), day(1))
	if st.Lines[0].NotedAt != 0 || !slices.Equal(st.Lines[0].Noted, []int{10, 0, 0, 5, 3, 2}) || len(st.Payments) != 0 {
		t.Error(st.Lines[0])
	}
	st = play(t, s, day(29), move(0, 0, 1, 4), day(2))
	if want := [][5]int{{0, 31, 100, 100, 0}, {3, 31, 50, 50, 0}, {4, 31, 30, 30, 0}}; !slices.Equal(due(st), want) {
		t.Error(due(st))
	}
	if !slices.Equal(st.Cash, []int{99820, 50030}) || !slices.Equal(st.Purses, []int{100, 0, 0, 50, 0, 0}) {
		t.Error(st.Cash, st.Purses)
	}
	// 120 is 1 May: the last coupon, and all that is redeemed.
	st = play(t, s, day(119), day(1), day(30))
	l := due(st)
	if want := [][5]int{{0, 120, 100, 100, 3}, {3, 120, 50, 50, 3}, {4, 120, 30, 30, 3}, {0, 120, 10000, 10000, -1}, {3, 120, 5000, 5000, -1}, {4, 120, 3000, 3000, -1}}; len(l) != 15 || !slices.Equal(l[9:], want) {
		t.Error(l)
	}
	if !st.Lines[0].Ended || !slices.Equal(st.Lines[0].Units, make([]int, 6)) || st.Day != 150 {
		t.Error(st.Lines[0])
	}
	for _, in := range []api.Input{move(0, 0, 1, 1), propose(0, s.Texts[0]), notice(0), call(0, 200)} {
		refused(t, s, st, in, api.ErrState)
	}
}

func TestP48_2Sink(t *testing.T) {
	x := base("a", "x")
	x.more = "sink 300 ;"
	s := setup(x)
	st := play(t, s, day(31))
	if want := [][5]int{{0, 31, 100, 100, 0}, {3, 31, 50, 50, 0}, {4, 31, 30, 30, 0}, {0, 31, 3000, 3000, -1}, {3, 31, 1000, 1000, -1}}; !slices.Equal(due(st), want) {
		t.Error(due(st))
	}
	if !slices.Equal(st.Lines[0].Units, []int{7, 0, 0, 4, 3, 2}) {
		t.Error(st.Lines[0].Units)
	}
}

func TestP48_2Calls(t *testing.T) {
	x := base("a", "x")
	x.more = "call 1900 - 1 - 11 at 1010 ; call 1900 - 1 - 21 at 1005 ; notice 10 ;"
	s := setup(x)
	st, _ := office.Begin(s)
	refused(t, s, st, call(0, 9), api.ErrEarly)
	st = play(t, s, day(5))
	refused(t, s, st, call(0, 14), api.ErrEarly)
	refused(t, s, st, call(1, 15), api.ErrNone)
	st = play(t, s, day(5), call(0, 15))
	if st.Lines[0].Called != 15 || st.Lines[0].Price != 1010 {
		t.Error(st.Lines[0])
	}
	refused(t, s, st, call(0, 25), api.ErrTwice)
	st = play(t, s, day(5), call(0, 25), day(20))
	if want := [][5]int{{0, 25, 10050, 10050, -1}, {3, 25, 5025, 5025, -1}, {4, 25, 3015, 3015, -1}}; !slices.Equal(due(st), want) || !st.Lines[0].Ended {
		t.Error(due(st))
	}
	// Without notice the day still has to come.
	x.more = "call 1900 - 1 - 1 at 999 ;"
	s = setup(x)
	st = play(t, s, day(5))
	refused(t, s, st, call(0, 5), api.ErrEarly)
	if st, e := office.Take(s, st, call(0, 6)); e != api.OK || st.Lines[0].Price != 999 {
		t.Error(e)
	}
}

// poor is a setup whose issuer x cannot pay.
func poor(x terms) api.Setup {
	s := setup(x, base("b", "x"))
	s.Cash[0] = 100
	return s
}

func TestP48_2Missed(t *testing.T) {
	s := poor(base("a", "x"))
	st := play(t, s, day(31))
	// 18 units of each of both issues are owed 10; 100 coins are there.
	paid := 0
	for _, p := range st.Payments {
		paid += p.Paid
	}
	if paid != 100 || st.Cash[0] != 0 || st.Lines[0].Stages[0] != (api.Breach{Stage: api.BrBreach, Since: 31}) {
		t.Error(due(st), st.Lines[0].Stages)
	}
	st = play(t, s, day(33))
	if st.Lines[0].Stages[0].Stage != api.BrBreach {
		t.Error(st.Lines[0].Stages)
	}
	st = play(t, s, day(34))
	if st.Lines[0].Stages[0] != (api.Breach{Stage: api.BrDefault, Since: 34}) {
		t.Error(st.Lines[0].Stages)
	}
	// Money that comes is paid on the next day, and cures the breach.
	st = play(t, s, day(31), cash(0, 10000), day(1))
	if st.Lines[0].Stages[0] != (api.Breach{}) || st.Payments[0].Paid != 100 {
		t.Error(st.Lines[0].Stages, due(st))
	}
}

func TestP48_2Notices(t *testing.T) {
	x := base("a", "x")
	x.more = "cross 17999 ;"
	s := poor(x)
	st := play(t, s, day(33))
	refused(t, s, st, notice(1, 0), api.ErrState)
	st = play(t, s, day(34))
	refused(t, s, st, notice(2, 0), api.ErrNone)
	refused(t, s, st, notice(1, 1), api.ErrKey)
	refused(t, s, st, notice(1, 5), api.ErrKey)
	refused(t, s, st, notice(1, 0, 6), api.ErrKey)
	refused(t, s, st, notice(1, 4), api.ErrFew)
	st, e := office.Take(s, st, notice(1, 3))
	if e != api.OK || st.Lines[1].Fast != 34 || st.Lines[1].Stages[0] != (api.Breach{Stage: api.BrFast, Since: 34}) || st.Lines[0].Fast != -1 {
		t.Error(e, st.Lines[1])
	}
	// On the next day everything of the line falls due.
	after, _ := office.Take(s, st, day(1))
	if !after.Lines[1].Ended || after.Payments[len(after.Payments)-1].Due != 3000 {
		t.Error(due(after))
	}
	// Payments of the line a were made; it defaults because of b, which has more than 17999 outstanding.
	y := base("a", "x")
	y.coupon, y.more = "0 mille", "cross 17999 ;"
	st = play(t, poor(y), cash(0, 50), day(34), notice(1, 0))
	if st.Lines[0].Stages[0] != (api.Breach{Stage: api.BrDefault, Since: 34}) {
		t.Error(st.Lines[0].Stages)
	}
	y.more = "cross 18000 ;"
	st = play(t, poor(y), cash(0, 50), day(34), notice(1, 0))
	if st.Lines[0].Stages[0] != (api.Breach{}) {
		t.Error(st.Lines[0].Stages)
	}
}

func TestP48_2Promises(t *testing.T) {
	x := base("a", "x")
	x.covenants = "covenant cover must fact debt < 5 coins grace 2 ; covenant slow must long 3 ( fact debt < 5 coins ) grace 0 ;"
	y := base("b", "y")
	y.more = "favour a ;"
	s := setup(x, y)
	st := play(t, s, day(3), report(0, "debt", 1, 7), day(1))
	if want := []api.Breach{{}, {Stage: api.BrBreach, Since: 4}, {Stage: api.BrDefault, Since: 4}}; !slices.Equal(st.Lines[0].Stages, want) {
		t.Error(st.Lines[0].Stages)
	}
	// The line b asks for the accounts of its own issuer.
	if !slices.Equal(st.Lines[1].Stages, make([]api.Breach, 3)) {
		t.Error(st.Lines[1].Stages)
	}
	st = play(t, s, day(3), report(0, "debt", 1, 7), day(1), report(0, "debt", 1, 4), day(1))
	if st.Lines[0].Stages[1] != (api.Breach{}) {
		t.Error(st.Lines[0].Stages)
	}
	st = play(t, s, day(3), report(1, "debt", 1, 7), day(3))
	if want := []api.Breach{{}, {Stage: api.BrDefault, Since: 6}, {Stage: api.BrDefault, Since: 4}}; !slices.Equal(st.Lines[1].Stages, want) {
		t.Error(st.Lines[1].Stages)
	}
	// An account with an error in its promise is open; and what lies 60 days back is forgotten.
	z := base("c", "x")
	z.covenants = "covenant odd must 1 coins / fact debt < 1 grace 0 ; covenant once must not ever 1000 ( 5 coins < fact debt ) or fact debt < 7 coins and not ever 1000 ( 5 coins < fact debt ) grace 500 ;"
	s = setup(z)
	st = play(t, s, day(1))
	if st.Lines[0].Stages[1] != (api.Breach{}) {
		t.Error(st.Lines[0].Stages)
	}
	inputs := []api.Input{day(1), report(0, "debt", 1, 6), day(1), report(0, "debt", 1, 5)}
	st = play(t, s, append(slices.Clone(inputs), day(58))...)
	if st.Day != 60 || st.Lines[0].Stages[2] != (api.Breach{Stage: api.BrBreach, Since: 2}) {
		t.Error(st.Day, st.Lines[0].Stages)
	}
	// The window of the day 61 begins with the day 2, on which the later report was known already.
	st = play(t, s, append(slices.Clone(inputs), day(59))...)
	if st.Lines[0].Stages[2] != (api.Breach{}) {
		t.Error(st.Lines[0].Stages)
	}
}

func TestP48_2Rates(t *testing.T) {
	x, y := base("a", "x"), base("b", "y")
	x.coupon = "rate b / 2 + 30 mille"
	y.coupon = "rate a / 2 + fact step / 1 coins * 15 mille"
	s := setup(x, y)
	// Without a report the step is 0: 40 and 20 mille; a step of 2 makes them 60 and 60 mille.
	st := play(t, s, day(31))
	if l := due(st); l[0] != [5]int{0, 31, 33, 33, 0} || l[3] != [5]int{0, 31, 16, 16, 0} {
		t.Error(l)
	}
	st = play(t, s, day(30), report(1, "step", 1, 2), day(1))
	if l := due(st); l[0] != [5]int{0, 31, 50, 50, 0} || l[3] != [5]int{0, 31, 50, 50, 0} {
		t.Error(l)
	}
	// If a rate cannot be found, all are 0.
	y.coupon = "1 coins / fact step * 10 mille"
	x.coupon = "100 mille"
	s = setup(x, y)
	st = play(t, s, day(31))
	if l := due(st); l[0][2] != 0 || l[3][2] != 0 || len(l) != 6 {
		t.Error(l)
	}
}

func TestP48_2Proposals(t *testing.T) {
	old, new := base("a", "x"), base("a", "x")
	new.rank, new.covenants = 3, "covenant c must true grace 1 ;"
	s := setup(old, base("b", "y"))
	st, _ := office.Begin(s)
	other, broken, loop, near, favour := base("b", "x"), base("a", "x"), base("a", "x"), base("a", "x"), base("a", "x")
	broken.coupon = "1"
	loop.coupon = "rate a"
	near.record, near.dates = 30, "from 1900 - 2 - 1 to 1900 - 5 - 1 every 1 months"
	favour.more = "favour q ;"
	refused(t, s, st, propose(2, new.text()), api.ErrNone)
	refused(t, s, st, propose(0, "issue"), api.ErrSyntax)
	refused(t, s, st, propose(0, other.text()), api.ErrName)
	refused(t, s, st, propose(0, base("a", "y").text()), api.ErrName)
	refused(t, s, st, propose(0, broken.text()), api.ErrUnit)
	refused(t, s, st, propose(0, loop.text()), api.ErrCycle)
	refused(t, s, st, propose(0, favour.text()), api.ErrName)
	refused(t, s, st, propose(0, near.text()), api.ErrDate)
	near.dates = "from 1900 - 1 - 1 to 1900 - 5 - 1 every 1 months"
	near.record = 40
	refused(t, s, st, propose(0, near.text()), api.ErrRange)
	refused(t, s, st, ballot(0, 0, 1), api.ErrNone)
	refused(t, s, st, closed(0), api.ErrNone)
	st = play(t, s, day(2), propose(0, new.text()))
	if p := st.Proposals[0]; p.Issue != 0 || p.Text != new.text() || p.Day != 2 || p.Closed || len(p.Votes) != 0 || !slices.Equal(p.Units, []int{10, 0, 0, 5, 3, 0}) {
		t.Error(p)
	}
	refused(t, s, st, propose(0, new.text()), api.ErrTwice)
	for _, seat := range []int{1, 2, 5, 6} {
		refused(t, s, st, ballot(0, seat, 1), api.ErrKey)
	}
	refused(t, s, st, closed(0), api.ErrEarly)
	yes := []api.Input{day(2), propose(0, new.text()), move(0, 0, 1, 10), ballot(0, 0, 1), ballot(0, 4, 1), day(5)}
	// 13 of 18 are enough for 667 per mille, though the units were sold since.
	st = play(t, s, append(yes, closed(0))...)
	l := st.Lines[0]
	if l.Text != new.text() || l.Since != 7 || len(l.Stages) != 2 || l.NotedAt != -1 || !st.Proposals[0].Closed {
		t.Error(l)
	}
	refused(t, s, st, ballot(0, 0, 1), api.ErrState)
	refused(t, s, st, closed(0), api.ErrState)
	// A vote that is taken back does not count.
	st = play(t, s, append(yes, ballot(0, 4, 0), closed(0))...)
	if st.Lines[0].Text != old.text() || st.Lines[0].Since != 0 || !st.Proposals[0].Closed {
		t.Error(st.Lines[0])
	}
	if st, e := office.Take(s, st, propose(0, new.text())); e != api.OK || len(st.Proposals) != 2 {
		t.Error("a further proposal", e)
	}
}

func TestP48_2Changed(t *testing.T) {
	old, new := base("a", "x"), base("a", "x")
	new.covenants = "covenant c must fact debt < 1 coins grace 0 ;"
	keep := base("b", "x")
	keep.more = "favour a ;"
	s := setup(old, keep)
	// The period whose holders were noted on day 29 is paid by the units of its pay day.
	l := []api.Input{day(25), propose(0, new.text()), ballot(0, 0, 1), day(5), move(0, 0, 1, 10), closed(0), day(1)}
	st := play(t, s, l...)
	if p := st.Payments[0]; p.Seat != 1 || p.Due != 100 || len(st.Lines[1].Stages) != 2 {
		t.Error(due(st), st.Lines[1].Stages)
	}
	// Stages of promises begin anew, those of payments stay.
	s.Cash[0] = 0
	st = play(t, s, append(slices.Clone(l[:2]), ballot(0, 0, 1), day(8), report(0, "debt", 1, 7), closed(0))...)
	if !slices.Equal(st.Lines[0].Stages, []api.Breach{{Stage: api.BrBreach, Since: 31}, {}}) {
		t.Error(st.Lines[0].Stages)
	}
	st, _ = office.Take(s, st, day(1))
	if want := []api.Breach{{Stage: api.BrDefault, Since: 34}, {Stage: api.BrDefault, Since: 34}}; !slices.Equal(st.Lines[0].Stages, want) || !slices.Equal(st.Lines[1].Stages, want) {
		t.Error(st.Lines[0].Stages, st.Lines[1].Stages)
	}
	// Two proposals that do not fit together: the later one is closed, and changes nothing.
	one, two := base("a", "x"), base("b", "x")
	one.coupon, two.coupon = "rate b", "rate a"
	st = play(t, s, propose(0, one.text()), propose(1, two.text()), ballot(0, 0, 1), ballot(0, 3, 1), ballot(1, 0, 1), ballot(1, 3, 1), day(5), closed(0), closed(1))
	if st.Lines[0].Text != one.text() || st.Lines[1].Text != keep.text() || !st.Proposals[1].Closed {
		t.Error(st.Lines[1].Text)
	}
}

func TestP48_2Days(t *testing.T) {
	s := setup(base("a", "x"))
	st, _ := office.Begin(s)
	refused(t, s, st, day(0), api.ErrArg)
	refused(t, s, st, day(401), api.ErrArg)
	late := base("a", "x")
	late.dates = "from 2447 - 1 - 1 to 2447 - 5 - 1 every 1 months"
	s = setup(late)
	var l []api.Input
	for range 500 {
		l = append(l, day(400))
	}
	st = play(t, s, l...)
	refused(t, s, st, day(1), api.ErrRange)
	// Too much money of an issuer cannot be cleared: nothing has changed.
	s = setup(base("a", "x"))
	s.Cash[1] = api.MaxMoney
	st = play(t, s, day(31))
	if st.Cash[1] != api.MaxMoney+30 {
		t.Error(st.Cash)
	}
	refused(t, s, st, day(60), api.ErrFull)
	if _, e := office.Take(s, st, day(27)); e != api.OK {
		t.Error(e)
	}
}

func TestP48_3All(t *testing.T) {
	s := setup(base("a", "x"))
	st, errors, e := office.All(s, []api.Input{day(3), day(0), cash(7, 1), cash(0, 5)})
	if e != api.OK || !slices.Equal(errors, []api.Errno{api.OK, api.ErrArg, api.ErrNone, api.OK}) || st.Day != 3 || st.Cash[0] != 100005 {
		t.Error(st, errors, e)
	}
	if st, errors, e := office.All(s, make([]api.Input, 10001)); e != api.ErrArg || len(errors) != 0 || !state.Same(st, api.State{}) {
		t.Error("too many")
	}
	if _, errors, e := office.All(s, make([]api.Input, 10000)); e != api.OK || len(errors) != 10000 {
		t.Error("10000")
	}
}

func sameInput(a, b api.Input) bool {
	return a.Kind == b.Kind && a.A == b.A && a.B == b.B && a.C == b.C && a.N == b.N && a.Text == b.Text && a.Fact == b.Fact && slices.Equal(a.Seats, b.Seats)
}

func rightInputs() map[string]api.Input {
	return map[string]api.Input{
		"0;30;": day(30), "1;2;9;": cash(2, 9), "2;1;4:debt,5;6;": report(1, "debt", 5, 6), "3;1;2;3;4;": move(1, 2, 3, 4), "4;1;3:a;b,": propose(1, "a;b"), "5;2;4;1;": ballot(2, 4, 1), "6;9;": closed(9), "7;1;2[3;5;]": notice(1, 3, 5), "7;1;0[]": notice(1), "8;1;77;": call(1, 77),
		"1;59;1000000000000000;": cash(59, api.MaxMoney), "3;399;19999;0;1000000000;": move(399, 19999, 0, api.MaxUnits), "5;9999;19999;0;": ballot(9999, 19999, 0),
	}
}

func TestP48_4Texts(t *testing.T) {
	for text, in := range rightInputs() {
		back, e := office.Read(text)
		if office.Text(in) != text || !office.Right(in) || e != api.OK || !sameInput(back, in) {
			t.Error(text, office.Text(in), e)
		}
	}
	for i, in := range []api.Input{
		{Kind: -1}, {Kind: api.InKinds}, day(0), day(401), cash(-1, 1), cash(60, 1), cash(1, -1), cash(1, api.MaxMoney+1), report(-1, "a", 1, 1), report(60, "a", 1, 1), report(1, "at", 1, 1), report(1, "a", -1, 1), report(1, "a", 200001, 1), report(1, "a", 1, -1), move(-1, 1, 1, 1), move(400, 1, 1, 1), move(1, -1, 1, 1), move(1, 1, 20000, 1), move(1, 1, 1, 0), move(1, 1, 1, api.MaxUnits+1),
		propose(400, ""), propose(1, strings.Repeat("x", 4001)), ballot(-1, 1, 1), ballot(10000, 1, 1), ballot(1, 20000, 1), ballot(1, 1, 2), closed(10000), closed(-1), notice(400), notice(1, 2, 2), notice(1, 3, 2), notice(1, -1), notice(1, 20000), notice(1, make([]int, 201)...), call(400, 1), call(1, -1), call(1, 200001),
		{Kind: api.InDay, N: 1, A: 1}, {Kind: api.InDay, N: 1, Text: "x"}, {Kind: api.InDay, N: 1, Seats: []int{1}}, {Kind: api.InDay, N: 1, Fact: api.Fact{Day: 1}}, {Kind: api.InClose, N: 1}, {Kind: api.InVote, C: 1}, {Kind: api.InCash, B: 1}, {Kind: api.InFact, A: 1, Fact: api.Fact{Name: "a"}}, {Kind: api.InFact, Fact: api.Fact{Name: "a", Day: 1}},
	} {
		if office.Right(in) || office.Text(in) != "" {
			t.Error(i, in)
		}
	}
	for _, text := range []string{"", "0;0;", "0;30;;", "0;30", "9;1;", "-1;30;", "0;401;", "00;30;", "7;1;2[5;3;]", "7;1;1[-3;]", "4;1;3:ab,", "0;30;1;"} {
		if in, e := office.Read(text); e != api.ErrForm || !sameInput(in, api.Input{}) {
			t.Error(text, e)
		}
	}
}

func claim(from, to, rank, amount int) api.Claim {
	return api.Claim{From: from, To: to, Rank: rank, Amount: amount}
}

func TestP48_5Coins(t *testing.T) {
	coins := func(cash []int, claims ...api.Claim) ([]int, api.Errno) {
		c, _ := clear.Solve(cash, claims)
		return office.Coins(cash, claims, c)
	}
	for i, c := range []struct {
		cash   []int
		claims []api.Claim
		want   []int
	}{
		{[]int{10}, []api.Claim{claim(0, -1, 0, 7), claim(0, -1, 0, 7)}, []int{5, 5}},
		{[]int{1}, []api.Claim{claim(0, -1, 0, 1), claim(0, -1, 0, 1)}, []int{1, 0}},
		{[]int{2}, []api.Claim{claim(0, -1, 0, 1), claim(0, -1, 0, 1), claim(0, -1, 0, 1)}, []int{1, 1, 0}},
		{[]int{1, 0}, []api.Claim{claim(0, 1, 0, 1), claim(0, -1, 0, 1), claim(1, -1, 0, 5)}, []int{1, 0, 1}},
		{[]int{9}, []api.Claim{claim(0, -1, 0, 4)}, []int{4}},
		// First 1/3 goes back from the third claim to the first one, then from the second one through the issuer 1.
		{[]int{1, 0}, []api.Claim{claim(0, 1, 0, 2), claim(0, -1, 0, 2), claim(0, 1, 0, 2), claim(1, -1, 0, 1), claim(1, 0, 1, 9)}, []int{1, 0, 0, 1, 0}},
	} {
		got, e := coins(c.cash, c.claims...)
		if !slices.Equal(got, c.want) || e != api.OK {
			t.Error(i, got, e)
		}
	}
	if got, e := office.Coins([]int{5}, []api.Claim{claim(0, 0, 0, 1)}, api.Clearing{}); len(got) != 0 || e != api.ErrArg {
		t.Error("its own issuer")
	}
	if _, e := office.Coins([]int{-5}, nil, api.Clearing{}); e != api.ErrArg {
		t.Error("clear")
	}
	claims := []api.Claim{claim(0, -1, 0, 7), claim(0, -1, 0, 7)}
	good, _ := clear.Solve([]int{10}, claims)
	for i, spoil := range []func(c *api.Clearing){func(c *api.Clearing) { c.Have = nil }, func(c *api.Clearing) { c.Have = []api.Frac{fraction(11)} }, func(c *api.Clearing) { c.Paid = []api.Frac{fraction(4), fraction(6)} }, func(c *api.Clearing) { c.Falls = nil }, func(c *api.Clearing) { c.Falls = [][]int{{0}, {}} }, func(c *api.Clearing) { c.Paid = make([]api.Frac, 2) }} {
		c := api.Clearing{Have: good.Have, Paid: good.Paid, Falls: good.Falls}
		spoil(&c)
		if got, e := office.Coins([]int{10}, claims, c); len(got) != 0 || e != api.ErrArg {
			t.Error(i, e)
		}
	}
	if got, e := office.Coins(nil, nil, api.Clearing{Falls: [][]int{}}); len(got) != 0 || e != api.OK {
		t.Error("nothing")
	}
}

func TestP48_6Pure(t *testing.T) {
	s := setup(base("a", "x"))
	st, _ := office.Begin(s)
	next, _ := office.Take(s, st, day(31))
	next.Cash[0], next.Lines[0].Units[0], next.Lines[0].Stages[0].Stage, next.Purses[0] = 7, 7, 1, 7
	if st.Cash[0] != 100000 || st.Lines[0].Units[0] != 10 || s.Units[0][0] != 10 || s.Cash[0] != 100000 || st.Lines[0].Stages[0].Stage != 0 || st.Purses[0] != 0 {
		t.Error("shared")
	}
	same, _ := office.Take(s, st, day(0))
	same.Cash[0] = 7
	if st.Cash[0] != 100000 {
		t.Error("shared after an error")
	}
}

// random makes inputs for a setup of two issuers.
func random(r *rand.Rand, s api.Setup) []api.Input {
	var l []api.Input
	for range 40 {
		line, seat := r.Intn(len(s.Texts)), r.Intn(6)
		switch r.Intn(12) {
		case 0:
			l = append(l, cash(r.Intn(2), r.Intn(500)))
		case 1:
			l = append(l, report(r.Intn(2), "debt", r.Intn(20), r.Intn(10)))
		case 2, 3:
			l = append(l, move(line, seat, r.Intn(6), 1+r.Intn(5)))
		case 4:
			l = append(l, notice(line, 0, 3))
		case 5:
			l = append(l, call(line, r.Intn(150)))
		case 6:
			x := base("a", "x")
			x.rank, x.covenants = r.Intn(3), "covenant c must fact debt < 5 coins grace 1 ;"
			l = append(l, propose(0, x.text()))
		case 7, 8:
			l = append(l, ballot(r.Intn(3), seat, r.Intn(4)/3^1))
		case 9:
			l = append(l, closed(r.Intn(3)))
		default:
			l = append(l, day(1+r.Intn(12)))
		}
	}
	return l
}

func randomSetup(r *rand.Rand) api.Setup {
	a, b, c := base("a", "x"), base("b", "y"), base("c", "x")
	a.covenants = "covenant c must fact debt < 6 coins grace 3 ;"
	a.more = "favour b ; cross 4000 ; call 1900 - 1 - 2 at 1010 ; notice 2 ;"
	b.covenants = "covenant d must soon 5 ( fact debt < 4 coins ) grace 1 ;"
	b.more = "sink 150 ;"
	c.rank = r.Intn(2)
	c.coupon = "rate b / 3 + 70 mille"
	s := setup(a, b, c)
	s.Cash = []int{r.Intn(40000), r.Intn(3000)}
	s.Seats[3].Owner = r.Intn(3) - 1
	s.Calendar.Rest = []int{5, 6}
	return s
}

func TestP48_7Money(t *testing.T) {
	r := rand.New(rand.NewSource(1))
	for range 60 {
		s := randomSetup(r)
		st, _ := office.Begin(s)
		for _, in := range random(r, s) {
			next, e := office.Take(s, st, in)
			if !state.Right(next) || e != api.OK && !state.Same(st, next) {
				t.Fatal(in, e)
			}
			st = next
			if state.Money(st) != s.Cash[0]+s.Cash[1]+st.Outside {
				t.Fatal("money", in)
			}
		}
	}
}

func fraction(n int) api.Frac {
	f, _ := frac.Of(n, 1)
	return f
}

func fractional(f api.Frac) bool { return !strings.HasSuffix(frac.Text(f), "/1") }

func sumPaid(claims []api.Claim, paid []api.Frac, from int) api.Frac {
	sum := fraction(0)
	for k, c := range claims {
		if c.From == from {
			sum, _ = frac.Add(sum, paid[k])
		}
	}
	return sum
}

func TestP48_8Rounded(t *testing.T) {
	r := rand.New(rand.NewSource(2))
	broken := 0
	for range 600 {
		n := 1 + r.Intn(4)
		var cash []int
		for range n {
			cash = append(cash, r.Intn(12))
		}
		var claims []api.Claim
		for range r.Intn(10) {
			from := r.Intn(n)
			if to := r.Intn(n+1) - 1; to != from {
				claims = append(claims, claim(from, to, r.Intn(2), r.Intn(12)))
			}
		}
		c, _ := clear.Solve(cash, claims)
		got, e := office.Coins(cash, claims, c)
		if e != api.OK {
			t.Fatal(e)
		}
		near := func(n int, f api.Frac) bool {
			d, _ := frac.Sub(fraction(n), f)
			if fractional(f) {
				broken++
			}
			return frac.Compare(d, fraction(1)) < 0 && frac.Compare(d, fraction(-1)) > 0
		}
		have := slices.Clone(cash)
		for k, x := range claims {
			if !near(got[k], c.Paid[k]) {
				t.Fatal(cash, claims, got)
			}
			have[x.From] -= got[k]
			if x.To >= 0 {
				have[x.To] += got[k]
			}
		}
		for i := range cash {
			keeps, _ := frac.Sub(c.Have[i], sumPaid(claims, c.Paid, i))
			if !near(have[i], keeps) || have[i] < 0 {
				t.Fatal(cash, claims, got)
			}
		}
	}
	if broken == 0 {
		t.Error("nothing was rounded")
	}
}

func TestP48_9Changes(t *testing.T) {
	r := rand.New(rand.NewSource(3))
	changed := 0
	for range 60 {
		s := randomSetup(r)
		st, _ := office.Begin(s)
		for _, in := range random(r, s) {
			next, _ := office.Take(s, st, in)
			for i, l := range next.Lines {
				if l.Text == st.Lines[i].Text {
					continue
				}
				changed++
				p := st.Proposals[in.A]
				yes, all := 0, 0
				for seat, u := range p.Units {
					all += u
					for k := len(p.Votes) - 1; k >= 0; k-- {
						if p.Votes[k].Seat == seat {
							if p.Votes[k].Yes {
								yes += u
							}
							break
						}
					}
				}
				if in.Kind != api.InClose || p.Issue != i || yes*1000 < all*501 {
					t.Fatal(in)
				}
			}
			st = next
		}
	}
	if changed == 0 {
		t.Error("nothing changed")
	}
}

func TestP48_10Days(t *testing.T) {
	r := rand.New(rand.NewSource(4))
	for range 40 {
		s := randomSetup(r)
		l := random(r, s)
		var single []api.Input
		for _, in := range l {
			if in.Kind != api.InDay {
				single = append(single, in)
				continue
			}
			for range in.N {
				single = append(single, day(1))
			}
		}
		a, errors, _ := office.All(s, l)
		b, _, _ := office.All(s, single)
		if !state.Same(a, b) {
			t.Fatal("days one after the other")
		}
		st, _ := office.Begin(s)
		for i, in := range l {
			var e api.Errno
			if st, e = office.Take(s, st, in); e != errors[i] {
				t.Fatal(in, e, errors[i])
			}
		}
		if !state.Same(a, st) {
			t.Fatal("Take and All")
		}
	}
}
