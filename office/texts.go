package office

import (
	"cmp"
	"maps"
	"slices"

	"consol/api"
	"consol/eval"
	"consol/fact"
	"consol/favour"
	"consol/rates"
	"consol/sched"
	"consol/syntax"
	"consol/watch"
)

const (
	mostPeriods  = 5000
	mostPromises = 499
	// mostKept is how many accounts are kept at once.
	mostKept = 4096
)

// text is the text of a line, with its periods and promises.
type text struct {
	api.Indenture
	issuer   int
	periods  []api.Period
	atoms    [][]api.Exp
	promises []favour.Held
}

// library is the texts of all lines, and what follows from them.
type library struct {
	texts []text
	plain []api.Indenture
	// names are those of all facts that the texts name, ascending.
	names    []string
	accounts map[account]eval.Env
	rates    map[int][]api.Frac
}

// account says of whom, and after how many facts, the accounts are.
type account struct{ issuer, facts int }

func apart(periods []api.Period) bool {
	for k := 1; k < len(periods); k++ {
		if periods[k].Record <= periods[k-1].Pay {
			return false
		}
	}
	return true
}

// compile returns the library of some texts, in force since some days.
func compile(s api.Setup, l []api.Indenture, since []int) (*library, api.Errno) {
	if e := rates.Compile(l); e != api.OK {
		return nil, e
	}
	promises, e := favour.Closure(l, since)
	if e != api.OK {
		return nil, e
	}
	b := &library{plain: l, accounts: map[account]eval.Env{}, rates: map[int][]api.Frac{}}
	for i, x := range l {
		periods, e := sched.Periods(x, s.Calendar)
		if e != api.OK {
			return nil, e
		}
		b.texts = append(b.texts, text{Indenture: x, issuer: slices.Index(s.Issuers, x.Issuer), periods: periods, promises: promises[i]})
	}
	if slices.ContainsFunc(b.texts, func(t text) bool { return !apart(t.periods) }) {
		return nil, api.ErrDate
	}
	if slices.ContainsFunc(b.texts, func(t text) bool { return len(t.periods) > mostPeriods || len(t.promises) > mostPromises }) {
		return nil, api.ErrFull
	}
	b.index()
	return b, api.OK
}

// index finds what the days ask for again and again.
func (b *library) index() {
	names := map[string]bool{}
	for i := range b.texts {
		t := &b.texts[i]
		for _, c := range t.Covenants {
			t.atoms = append(t.atoms, watch.Atoms(c.Must))
			facts(c.Must, names)
		}
		for _, l := range t.Lets {
			facts(l.Body, names)
		}
		facts(t.Coupon, names)
	}
	b.names = slices.Sorted(maps.Keys(names))
}

// noted returns the period whose record day is a day. Periods are apart: each day is that of one at most, and they ascend.
func (t *text) noted(day int) (int, bool) {
	return slices.BinarySearchFunc(t.periods, day, func(p api.Period, day int) int { return cmp.Compare(p.Record, day) })
}

// due returns the period that is paid on a day.
func (t *text) due(day int) (int, bool) {
	return slices.BinarySearchFunc(t.periods, day, func(p api.Period, day int) int { return cmp.Compare(p.Pay, day) })
}

// facts adds the names of all facts of an expression.
func facts(e api.Exp, names map[string]bool) {
	if e.Op == api.ExFact {
		names[e.S] = true
	}
	for _, a := range e.Args {
		facts(a, names)
	}
}

// parse returns the indentures of some texts.
func parse(texts []string) ([]api.Indenture, api.Errno) {
	var l []api.Indenture
	for _, t := range texts {
		x, _, e := syntax.Parse(t)
		if e != api.OK {
			return nil, e
		}
		l = append(l, x)
	}
	return l, api.OK
}

// env returns the accounts of an issuer after the first facts; those that nobody has reported are 0.
func (b *library) env(l []api.Fact, issuer, n int) eval.Env {
	key := account{issuer, n}
	if v, ok := b.accounts[key]; ok {
		return v
	}
	var v eval.Env
	names, values := fact.Known(l[:n], issuer, api.MaxDay, api.MaxDay)
	for i, name := range names {
		v.Names = append(v.Names, name)
		v.Values = append(v.Values, number(values[i]))
	}
	for _, name := range b.names {
		if _, found := slices.BinarySearch(names, name); !found {
			v.Names = append(v.Names, name)
			v.Values = append(v.Values, number(0))
		}
	}
	if len(b.accounts) == mostKept {
		clear(b.accounts)
	}
	b.accounts[key] = v
	return v
}

// ratesAt returns the rates of all lines after the first facts.
func (b *library) ratesAt(l []api.Fact, n int) []api.Frac {
	if r, ok := b.rates[n]; ok {
		return r
	}
	var envs []eval.Env
	for _, t := range b.texts {
		envs = append(envs, b.env(l, t.issuer, n))
	}
	r, e := rates.Rates(b.plain, envs)
	if e != api.OK {
		r = nil
		for range b.texts {
			r = append(r, number(0))
		}
	}
	if len(b.rates) == mostKept {
		clear(b.rates)
	}
	b.rates[n] = r
	return r
}
