package audit

import (
	"slices"

	"consol/api"
	"consol/bind"
	"consol/office"
)

// graceOfPayments is how many days a payment can be missed before it is a default.
const graceOfPayments = 3

// step is what an input has made of a state.
type step struct {
	before, after *view
	in            api.Input
}

// Step reports whether a step is justified.
func Step(s api.Setup, before api.State, in api.Input, after api.State) bool {
	if !rightSetup(s) || !office.Right(in) || in.Kind == api.InDay && in.N != 1 {
		return false
	}
	b, ok := look(s, before)
	if !ok {
		return false
	}
	a, ok := look(s, after)
	if !ok {
		return false
	}
	x := step{b, a, in}
	if !x.time() || !x.money() {
		return false
	}
	for i := range b.Lines {
		if !x.text(i) || !x.fast(i) || !x.ended(i) || !x.units(i) || !x.stages(i) {
			return false
		}
	}
	return true
}

func (x step) is(kind int) bool { return x.in.Kind == kind }

func (x step) time() bool {
	days := 0
	if x.is(api.InDay) {
		days = 1
	}
	return x.after.Day == x.before.Day+days
}

func (x step) money() bool {
	came := 0
	if x.is(api.InCash) {
		came = x.in.N
	}
	b, a := x.before, x.after
	return a.Outside == b.Outside+came && sum(a.Cash, a.Purses) == sum(b.Cash, b.Purses)+came
}

// accepted reports whether a proposal was accepted by a majority.
func accepted(p api.Proposal, majority int) bool {
	last := map[int]bool{}
	for _, v := range p.Votes {
		last[v.Seat] = v.Yes
	}
	yes, all := 0, 0
	for seat, u := range p.Units {
		all += u
		if last[seat] {
			yes += u
		}
	}
	return all > 0 && majority > 0 && yes*api.PerMille >= all*majority
}

// text reports whether a text is the same, or was changed by a proposal that was accepted.
func (x step) text(i int) bool {
	b, a := x.before.Lines[i], x.after.Lines[i]
	if a.Text == b.Text && a.Since == b.Since {
		return true
	}
	if !x.is(api.InClose) || x.in.A >= len(x.before.Proposals) {
		return false
	}
	p := x.before.Proposals[x.in.A]
	return !p.Closed && p.Issue == i && p.Text == a.Text && a.Since == x.after.Day &&
		accepted(p, bind.Needed(x.before.texts[i], x.after.texts[i]))
}

// fast reports whether a line was accelerated by a notice of enough units after a default.
func (x step) fast(i int) bool {
	b, a := x.before.Lines[i], x.after.Lines[i]
	if a.Fast == b.Fast {
		return true
	}
	if !x.is(api.InNotice) || x.in.A != i || a.Fast != x.after.Day {
		return false
	}
	units := x.before.counting(i)
	given := 0
	for _, seat := range x.in.Seats {
		if seat < len(units) {
			given += units[seat]
		}
	}
	return slices.ContainsFunc(b.Stages, func(s api.Breach) bool { return s.Stage == api.BrDefault }) &&
		given*api.PerMille >= sum(units)*x.before.texts[i].Fast
}

func (x step) ended(i int) bool {
	b, a := x.before.Lines[i], x.after.Lines[i]
	switch {
	case b.Ended:
		return a.Ended && slices.Equal(a.Units, b.Units)
	case a.Ended:
		return x.is(api.InDay) && sum(a.Units) == 0
	}
	return true
}

func (x step) units(i int) bool {
	b, a := x.before.Lines[i].Units, x.after.Lines[i].Units
	switch {
	case x.is(api.InTrade) && x.in.A == i:
		return sum(a) == sum(b)
	case x.is(api.InDay):
		for seat := range a {
			if a[seat] > b[seat] {
				return false
			}
		}
		return true
	}
	return slices.Equal(a, b)
}

func (x step) stages(i int) bool {
	b, a := x.before.Lines[i].Stages, x.after.Lines[i].Stages
	if x.is(api.InClose) {
		return a[0] == b[0]
	}
	if len(a) != len(b) {
		return false
	}
	for k := range a {
		if a[k].Stage != b[k].Stage && !x.stage(i, k, b[k], a[k]) {
			return false
		}
	}
	return true
}

// stage reports whether a breach has a reason to be at another stage.
func (x step) stage(i, k int, b, a api.Breach) bool {
	since := x.after.Day
	if a.Stage == api.BrNone {
		since = 0
	}
	if a.Since != since {
		return false
	}
	early := b.Stage == api.BrNone || b.Stage == api.BrBreach
	switch a.Stage {
	case api.BrNone:
		return x.is(api.InDay) && b.Stage == api.BrBreach
	case api.BrBreach:
		return x.is(api.InDay) && b.Stage == api.BrNone
	case api.BrFast:
		return x.is(api.InNotice) && x.in.A == i && b.Stage == api.BrDefault
	}
	if x.is(api.InNotice) {
		return k == 0 && early && x.anotherFast(i)
	}
	if k == 0 {
		return x.is(api.InDay) && b.Stage == api.BrBreach && b.Since+graceOfPayments <= x.after.Day
	}
	return x.is(api.InDay) && early
}

// anotherFast reports whether another line of the same issuer was accelerated.
func (x step) anotherFast(i int) bool {
	for j, l := range x.after.Lines {
		if j != i && x.after.issuers[j] == x.after.issuers[i] && !l.Ended && l.Fast != -1 {
			return true
		}
	}
	return false
}
