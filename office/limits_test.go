package office_test

import (
	"slices"
	"strconv"
	"strings"
	"testing"

	"consol/api"
	"consol/office"
	"consol/state"
)

func TestP48_1Few(t *testing.T) {
	long := base("a", "x")
	long.coupon, long.dates = "0 mille", "from 1900 - 1 - 1 to 2316 - 9 - 1 every 1 months"
	if _, e := office.Begin(setup(long)); e != api.OK {
		t.Error("5000 periods", e)
	}
	s := setup(base("a", "x"))
	st, _ := office.Begin(s)
	long.dates = "from 1900 - 1 - 1 to 2316 - 10 - 1 every 1 months"
	refused(t, s, st, propose(0, long.text()), api.ErrFull)
	if _, e := office.Begin(setup(long)); e != api.ErrArg {
		t.Error("5001 periods", e)
	}
	two := base("a", "x")
	two.record, two.dates = 29, "from 1900 - 1 - 1 to 1900 - 3 - 1 every 1 months"
	refused(t, s, st, propose(0, two.text()), api.ErrDate)
	two.record = 27
	if _, e := office.Take(s, st, propose(0, two.text())); e != api.OK {
		t.Error("periods that are apart", e)
	}
	two.record = 28
	refused(t, s, st, propose(0, two.text()), api.ErrDate)
	chain := func(last int) api.Setup {
		var l []terms
		for i := range 25 {
			x := base("n"+strconv.Itoa(i), "x")
			n := 20
			if i == 24 {
				n = last
			}
			for k := range n {
				x.covenants += "covenant c" + strconv.Itoa(k) + " must true grace 0 ; "
			}
			if i > 0 {
				x.more = "favour n" + strconv.Itoa(i-1) + " ;"
			}
			l = append(l, x)
		}
		return setup(l...)
	}
	if st, e := office.Begin(chain(19)); e != api.OK || len(st.Lines[24].Stages) != 500 {
		t.Error("499 promises", e)
	}
}

func TestP48_2Outside(t *testing.T) {
	x := base("a", "x")
	x.face, x.coupon, x.dates, x.record = api.MaxMoney, "10000 mille", "from 1900 - 1 - 1 to 1912 - 1 - 1 every 1 months", 0
	s := setup(x)
	s.Cash = []int{0, 0}
	s.Units[0] = []int{1, 0, 0, 0, 0, 0}
	var l []api.Input
	for range 119 {
		l = append(l, cash(0, 833333333333333), day(31))
	}
	st := play(t, s, l...)
	if st.Cash[0] != 0 || st.Purses[0] != 119*833333333333333 {
		t.Error(st.Cash, st.Purses)
	}
	left := 100000000000000000 - st.Outside
	refused(t, s, st, cash(0, left+1), api.ErrRange)
	if _, e := office.Take(s, st, cash(0, left)); e != api.OK {
		t.Error("exactly", e)
	}
	if _, e := office.Take(s, st, cash(1, api.MaxMoney)); e != api.ErrRange && left < api.MaxMoney {
		t.Error(e)
	}
}

func TestP48_2Great(t *testing.T) {
	// What cannot be said as an amount of money is not due as a coupon, and MaxMoney as principal.
	x := base("a", "x")
	x.face, x.coupon, x.dates = api.MaxMoney, "10000 mille", "from 1900 - 1 - 1 to 1901 - 1 - 1 every 12 months"
	s := setup(x)
	st := play(t, s, day(365))
	if l := due(st); len(l) != 6 || l[0] != [5]int{0, 365, 0, 0, 0} || l[3][2] != api.MaxMoney || l[3][4] != -1 {
		t.Error(l)
	}
	// 20000 seats are owed nothing at each of five coupons; the sixth one is too much.
	x.face, x.coupon, x.dates, x.record = 1000, "0 mille", "from 1900 - 1 - 1 to 1901 - 1 - 1 every 1 months", 0
	s = setup(x)
	s.Seats = slices.Repeat([]api.Seat{{Parent: -1, Owner: -1}}, 20000)
	s.Units[0] = slices.Repeat([]int{1}, 20000)
	st = play(t, s, day(31+28+31+30+31))
	if len(st.Payments) != 100000 || len(st.Lines[0].Stages) != 1 || st.Lines[0].Stages[0].Stage != api.BrNone {
		t.Error(len(st.Payments))
	}
	refused(t, s, st, day(30), api.ErrFull)
	if _, e := office.Take(s, st, day(29)); e != api.OK {
		t.Error(e)
	}
}

func TestP48_2Exactly(t *testing.T) {
	s := poor(base("a", "x"))
	s.Units[1] = []int{10, 0, 0, 5, 5, 2}
	st := play(t, s, day(34))
	if after, e := office.Take(s, st, notice(1, 3)); e != api.OK || after.Lines[1].Fast != 34 {
		t.Error("5 of 20 are 250 per mille", e)
	}
	x := base("a", "x")
	x.more = "call 1900 - 1 - 11 at 0 ;"
	s = setup(x)
	st = play(t, s, call(0, 10))
	if st.Lines[0].Called != 10 || st.Lines[0].Price != 0 {
		t.Error(st.Lines[0])
	}
	st = play(t, s, call(0, 10), day(10))
	if l := due(st); len(l) != 3 || l[0] != [5]int{0, 10, 0, 0, -1} || !st.Lines[0].Ended {
		t.Error(l)
	}
	st, _ = office.Begin(s)
	refused(t, s, st, call(0, 9), api.ErrEarly)
}

func TestP48_2Spread(t *testing.T) {
	// The line a is accelerated after a broken promise: its payments have not defaulted. The line b of the same issuer does.
	a, b, c := base("a", "x"), base("b", "x"), base("c", "y")
	a.covenants = "covenant p must fact debt < 5 coins grace 0 ;"
	b.more, c.more = "cross 0 ;", "cross 0 ;"
	s := setup(a, b, c)
	st := play(t, s, report(0, "debt", 0, 9), day(1), notice(0, 0))
	if want := []api.Breach{{}, {Stage: api.BrFast, Since: 1}}; !slices.Equal(st.Lines[0].Stages, want) || st.Lines[0].Fast != 1 {
		t.Error(st.Lines[0])
	}
	if st.Lines[1].Stages[0] != (api.Breach{Stage: api.BrDefault, Since: 1}) || st.Lines[1].Fast != -1 || st.Lines[2].Stages[0] != (api.Breach{}) {
		t.Error(st.Lines[1].Stages, st.Lines[2].Stages)
	}
	// A line that has ended brings nobody down, and is not brought down.
	st = play(t, s, report(0, "debt", 0, 9), day(1), notice(0, 0), day(1))
	if !st.Lines[0].Ended || st.Lines[1].Stages[0] != (api.Breach{Stage: api.BrDefault, Since: 1}) {
		t.Error(st.Lines[1])
	}
	// A default that is there already stays as it was.
	b.covenants = "covenant q must fact debt < 5 coins grace 0 ;"
	a.more = "cross 0 ;"
	s = setup(a, b, c)
	st = play(t, s, report(0, "debt", 0, 9), day(1), notice(0, 0), day(1), notice(1, 0))
	if st.Lines[1].Stages[0] != (api.Breach{Stage: api.BrFast, Since: 2}) || st.Lines[1].Stages[1] != (api.Breach{Stage: api.BrFast, Since: 2}) || st.Lines[0].Stages[0] != (api.Breach{}) {
		t.Error(st.Lines[0].Stages, st.Lines[1].Stages)
	}
}

func TestP48_2First(t *testing.T) {
	// The day 0 belongs to the days that a promise looks back on.
	x := base("a", "x")
	x.covenants = "covenant c must not ever 1000 ( 5 coins < fact debt ) grace 500 ;"
	s := setup(x)
	st := play(t, s, report(0, "debt", 0, 9), day(1), report(0, "debt", 0, 1), day(40))
	if st.Lines[0].Stages[1] != (api.Breach{Stage: api.BrBreach, Since: 1}) {
		t.Error(st.Lines[0].Stages)
	}
	s = setup(x)
	st = play(t, s, report(0, "debt", 0, 9), day(1), report(0, "debt", 0, 1), day(57))
	after, _ := office.Take(s, st, day(1))
	if st.Lines[0].Stages[1].Stage != api.BrBreach || after.Day != 59 || after.Lines[0].Stages[1].Stage != api.BrBreach {
		t.Error(after.Day, after.Lines[0].Stages)
	}
	after, _ = office.Take(s, after, day(2))
	if after.Lines[0].Stages[1] != (api.Breach{}) {
		t.Error(after.Day, after.Lines[0].Stages)
	}
}

func TestP48_2Votes(t *testing.T) {
	s := setup(base("a", "x"))
	new := base("a", "x")
	new.rank = 2
	inputs := []api.Input{propose(0, new.text())}
	for i := range 2000 {
		inputs = append(inputs, ballot(0, 0, i%2))
	}
	st := play(t, s, inputs...)
	if len(st.Proposals[0].Votes) != 2000 {
		t.Error(len(st.Proposals[0].Votes))
	}
	refused(t, s, st, ballot(0, 0, 1), api.ErrFull)
	// A proposal for a line that has ended is closed, and changes nothing.
	st = play(t, s, day(118), propose(0, new.text()), ballot(0, 0, 1), ballot(0, 3, 1), day(10), closed(0))
	if !st.Lines[0].Ended || !st.Proposals[0].Closed || st.Lines[0].Text != s.Texts[0] || st.Lines[0].Since != 0 {
		t.Error(st.Lines[0])
	}
}

func TestP48_4Limits(t *testing.T) {
	var seats []int
	for i := range 200 {
		seats = append(seats, 19800+i)
	}
	for i, in := range []api.Input{notice(399, seats...), report(59, strings.Repeat("n", 20), 200000, api.MaxMoney), report(0, "a", 0, 0), propose(399, strings.Repeat("x", 4000)), propose(0, ""), call(399, 200000), call(0, 0), day(400), day(1), cash(0, 0), closed(0), closed(9999), move(0, 0, 0, 1), ballot(0, 0, 0)} {
		back, e := office.Read(office.Text(in))
		if !office.Right(in) || e != api.OK || !sameInput(in, back) {
			t.Error(i, e)
		}
	}
	if office.Right(notice(0, append([]int{0}, seats...)...)) {
		t.Error("201 seats")
	}
}

func TestP48_8Walks(t *testing.T) {
	// The holders of three equal claims on two coins: the first ones are rounded up.
	s := setup(base("a", "x"))
	s.Cash[0] = 2
	s.Units[0] = []int{1, 1, 0, 1, 0, 0}
	st := play(t, s, day(31))
	if want := [][5]int{{0, 31, 10, 1, 0}, {1, 31, 10, 1, 0}, {3, 31, 10, 0, 0}}; !slices.Equal(due(st), want) || st.Cash[0] != 0 {
		t.Error(due(st), st.Cash)
	}
	if !state.Right(st) || st.Lines[0].Stages[0] != (api.Breach{Stage: api.BrBreach, Since: 31}) {
		t.Error(st.Lines[0].Stages)
	}
}

func TestP48_2Notes(t *testing.T) {
	// 5 of 21 are less than 250 per mille.
	s := poor(base("a", "x"))
	s.Units[1] = []int{10, 1, 0, 5, 5, 2}
	st := play(t, s, day(34))
	refused(t, s, st, notice(1, 3), api.ErrFew)
	if _, e := office.Take(s, st, notice(1, 1, 3)); e != api.OK {
		t.Error(e)
	}
	// A line whose payments are missed since today defaults at once because of another one.
	a, b := base("a", "x"), base("b", "x")
	a.covenants = "covenant p must fact debt < 5 coins grace 0 ;"
	a.coupon, b.more = "0 mille", "cross 0 ;"
	s = setup(a, b)
	s.Cash[0] = 0
	st = play(t, s, day(30), report(0, "debt", 0, 9), day(1))
	if st.Lines[1].Stages[0] != (api.Breach{Stage: api.BrBreach, Since: 31}) {
		t.Error(st.Lines[1].Stages)
	}
	st, e := office.Take(s, st, notice(0, 0))
	if e != api.OK || st.Lines[1].Stages[0] != (api.Breach{Stage: api.BrDefault, Since: 31}) {
		t.Error(st.Lines[1].Stages, e)
	}
}
