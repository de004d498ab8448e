package office

import (
	"slices"
	"sort"

	"consol/accrue"
	"consol/api"
	"consol/breach"
	"consol/clear"
	"consol/eval"
	"consol/favour"
	"consol/watch"
)

const (
	mostPayments = 100000
	// window is how many days of the past promises are about.
	window = 60
)

// days lets some days pass, all of them or none.
func (d *desk) days(n int) api.Errno {
	if d.st.Day+n > api.MaxDay {
		return api.ErrRange
	}
	before := d.kept()
	for range n {
		if e := d.day(); e != api.OK {
			d.st = before
			return e
		}
	}
	return api.OK
}

// kept returns the state with copies of what a day can change.
func (d *desk) kept() api.State {
	s := d.st
	s.Cash = slices.Clone(s.Cash)
	s.Purses = slices.Clone(s.Purses)
	s.Payments = slices.Clone(s.Payments)
	s.Lines = slices.Clone(s.Lines)
	for i, l := range s.Lines {
		s.Lines[i].Units = slices.Clone(l.Units)
		s.Lines[i].Stages = slices.Clone(l.Stages)
	}
	return s
}

// day lets the next day begin.
func (d *desk) day() api.Errno {
	d.st.Day++
	d.record()
	for i := range d.st.Lines {
		if !d.st.Lines[i].Ended {
			d.fallDue(i)
		}
	}
	if len(d.st.Payments) > mostPayments {
		return api.ErrFull
	}
	if e := d.pay(); e != api.OK {
		return e
	}
	d.stages()
	return api.OK
}

// record notes the holders of periods whose record day it is.
func (d *desk) record() {
	for i := range d.st.Lines {
		l := &d.st.Lines[i]
		if l.Ended {
			continue
		}
		if k, ok := d.lib.texts[i].noted(d.st.Day); ok {
			l.Noted, l.NotedAt = slices.Clone(l.Units), k
		}
	}
}

// owe adds a payment.
func (d *desk) owe(line, seat, due, period int) {
	d.st.Payments = append(d.st.Payments, api.Payment{Issue: line, Seat: seat, Day: d.st.Day, Due: due, Period: period})
}

// fallDue adds what falls due of a line: coupons, and what is redeemed.
func (d *desk) fallDue(line int) {
	l, t := &d.st.Lines[line], &d.lib.texts[line]
	period, due := t.due(d.st.Day)
	if due {
		d.coupon(line, period)
	}
	switch {
	case l.Fast != -1 && l.Fast < d.st.Day || due && period == len(t.periods)-1:
		d.redeem(line, api.PerMille)
	case l.Called == d.st.Day:
		d.redeem(line, l.Price)
	case due && t.Sink != 0:
		d.sink(line)
	}
}

func (d *desk) coupon(line, period int) {
	l, t := d.st.Lines[line], &d.lib.texts[line]
	units := l.Units
	if l.NotedAt == period {
		units = l.Noted
	}
	rate := d.lib.ratesAt(d.st.Facts, len(d.st.Facts))[line]
	// Without a share every amount is refused, and nothing is due.
	share, _ := accrue.Share(t.Count, t.periods[period].From, t.periods[period].To)
	for seat, u := range units {
		if u == 0 || d.own(line, seat) {
			continue
		}
		due := 0
		if amount, e := accrue.Amount(t.Face, u, rate, share); e == api.OK {
			due, _ = accrue.Floor(amount)
		}
		d.owe(line, seat, due, period)
	}
}

// redeem redeems all units of a line at so many parts per mille of their face.
func (d *desk) redeem(line, price int) {
	l := &d.st.Lines[line]
	units, _ := d.counting(line)
	for seat, u := range units {
		if u > 0 {
			d.owe(line, seat, worth(d.lib.texts[line].Face, u, price), -1)
		}
	}
	l.Units = make([]int, len(l.Units))
	l.Ended = true
}

// sink redeems a part of the units of each seat.
func (d *desk) sink(line int) {
	t := d.lib.texts[line]
	units, _ := d.counting(line)
	for seat, u := range units {
		if r := u * t.Sink / api.PerMille; r > 0 {
			d.owe(line, seat, worth(t.Face, r, api.PerMille), -1)
			d.st.Lines[line].Units[seat] -= r
		}
	}
}

// claims returns the claims of the day, and the payments that they are for.
func (d *desk) claims() ([]api.Claim, []int) {
	var claims []api.Claim
	var which []int
	for i, p := range d.st.Payments {
		t := &d.lib.texts[p.Issue]
		to := d.setup.Seats[p.Seat].Owner
		if p.Paid < p.Due && to != t.issuer {
			claims = append(claims, api.Claim{From: t.issuer, To: to, Rank: t.Rank, Amount: p.Due - p.Paid})
			which = append(which, i)
		}
	}
	return claims, which
}

// pay pays what the greatest clearing says, in whole coins.
func (d *desk) pay() api.Errno {
	claims, which := d.claims()
	if len(claims) == 0 {
		return api.OK
	}
	c, e := clear.Solve(d.st.Cash, claims)
	if e != api.OK {
		return api.ErrFull
	}
	paid, e := coins(claims, c)
	if e != api.OK {
		return api.ErrFull
	}
	for k, x := range claims {
		p := &d.st.Payments[which[k]]
		p.Paid += paid[k]
		d.st.Cash[x.From] -= paid[k]
		if x.To >= 0 {
			d.st.Cash[x.To] += paid[k]
		} else {
			d.st.Purses[p.Seat] += paid[k]
		}
	}
	return api.OK
}

// stages finds out what has become of payments and promises.
func (d *desk) stages() {
	missed := make([]bool, len(d.st.Lines))
	for _, p := range d.st.Payments {
		if p.Paid < p.Due {
			missed[p.Issue] = true
		}
	}
	counts := d.counts()
	for i := range d.st.Lines {
		l := &d.st.Lines[i]
		if l.Ended {
			continue
		}
		kept := api.WaTrue
		if missed[i] {
			kept = api.WaFalse
		}
		l.Stages[0], _ = breach.Next(l.Stages[0], kept, graceOfPayments, d.st.Day)
		for k, h := range d.lib.texts[i].promises {
			b := &l.Stages[k+1]
			// A default stays, whatever is known.
			if b.Stage == api.BrDefault || b.Stage == api.BrFast {
				continue
			}
			grace := d.lib.texts[h.Issue].Covenants[h.Covenant].Grace
			*b, _ = breach.Next(*b, d.known(i, h, counts), grace, d.st.Day)
		}
	}
}

// counts returns for each day of the window how many facts were reported by its end.
func (d *desk) counts() []int {
	var l []int
	for day := max(0, d.st.Day-window+1); day <= d.st.Day; day++ {
		n := sort.Search(len(d.st.Facts), func(i int) bool { return d.st.Facts[i].Day > day })
		l = append(l, n)
	}
	return l
}

// known returns what is known of a promise of a line.
func (d *desk) known(line int, h favour.Held, counts []int) int {
	of := d.lib.texts[h.Issue]
	env := eval.Env{Rates: d.lib.ratesAt(d.st.Facts, len(d.st.Facts))}
	for _, x := range d.lib.plain {
		env.Issues = append(env.Issues, x.Name)
	}
	truths := make([][]int, len(of.atoms[h.Covenant]))
	for k, n := range counts {
		accounts := d.lib.env(d.st.Facts, d.lib.texts[line].issuer, n)
		env.Names, env.Values = accounts.Names, accounts.Values
		for a, atom := range of.atoms[h.Covenant] {
			// The same facts say the same.
			if k > 0 && n == counts[k-1] {
				truths[a] = append(truths[a], truths[a][k-1])
				continue
			}
			truths[a] = append(truths[a], truth(eval.Value(of.Indenture, atom, env)))
		}
	}
	known, e := watch.Run(of.Covenants[h.Covenant].Must, truths, len(counts))
	if e != api.OK {
		return api.WaOpen
	}
	return known[len(known)-1]
}

func truth(f api.Frac, e api.Errno) int {
	switch {
	case e != api.OK:
		return api.WaOpen
	case f.P.Sign == 0:
		return api.WaFalse
	}
	return api.WaTrue
}
