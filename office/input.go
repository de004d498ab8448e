package office

import (
	"slices"

	"consol/api"
	"consol/syntax"
	"consol/wire"
)

const (
	mostDays    = 400
	mostNotices = 200
)

func within(n, least, most int) bool { return n >= least && n <= most }

func money(n int) bool { return within(n, 0, api.MaxMoney) }

func isIssue(n int) bool { return within(n, 0, api.MaxIssues-1) }

func isSeat(n int) bool { return within(n, 0, api.MaxSeats-1) }

func isProposal(n int) bool { return within(n, 0, api.MaxEvents-1) }

// named returns an input with the fields of its kind alone.
func named(in api.Input) api.Input {
	x := api.Input{Kind: in.Kind}
	switch in.Kind {
	case api.InDay:
		x.N = in.N
	case api.InCash, api.InCall:
		x.A, x.N = in.A, in.N
	case api.InFact:
		x.Fact = in.Fact
		x.Fact.Day = 0
	case api.InTrade:
		x.A, x.B, x.C, x.N = in.A, in.B, in.C, in.N
	case api.InPropose:
		x.A, x.Text = in.A, in.Text
	case api.InVote:
		x.A, x.B, x.N = in.A, in.B, in.N
	case api.InClose:
		x.A = in.A
	case api.InNotice:
		x.A, x.Seats = in.A, slices.Clone(in.Seats)
	}
	return x
}

func same(a, b api.Input) bool {
	return a.Kind == b.Kind && a.A == b.A && a.B == b.B && a.C == b.C && a.N == b.N && a.Text == b.Text && a.Fact == b.Fact && slices.Equal(a.Seats, b.Seats)
}

// Right reports whether an input is right.
func Right(in api.Input) bool { return same(in, named(in)) && inRange(in) }

func inRange(in api.Input) bool {
	switch in.Kind {
	case api.InDay:
		return within(in.N, 1, mostDays)
	case api.InCash:
		return within(in.A, 0, api.MaxIssuers-1) && money(in.N)
	case api.InFact:
		f := in.Fact
		return within(f.Issuer, 0, api.MaxIssuers-1) && syntax.Name(f.Name) && within(f.Period, 0, api.MaxDay) && money(f.Value)
	case api.InTrade:
		return isIssue(in.A) && isSeat(in.B) && isSeat(in.C) && within(in.N, 1, api.MaxUnits)
	case api.InPropose:
		return isIssue(in.A) && len(in.Text) <= api.MaxSource
	case api.InVote:
		return isProposal(in.A) && isSeat(in.B) && within(in.N, 0, 1)
	case api.InClose:
		return isProposal(in.A)
	case api.InNotice:
		return isIssue(in.A) && rightSeats(in.Seats)
	case api.InCall:
		return isIssue(in.A) && within(in.N, 0, api.MaxDay)
	}
	return false
}

func rightSeats(l []int) bool {
	if len(l) > mostNotices {
		return false
	}
	for i, n := range l {
		if !isSeat(n) || i > 0 && n <= l[i-1] {
			return false
		}
	}
	return true
}

func nums(l ...int) string {
	s := ""
	for _, n := range l {
		s += wire.Num(n)
	}
	return s
}

// Text returns the text of an input.
func Text(in api.Input) string {
	if !Right(in) {
		return ""
	}
	kind := wire.Num(in.Kind)
	switch in.Kind {
	case api.InDay:
		return kind + nums(in.N)
	case api.InFact:
		return kind + nums(in.Fact.Issuer) + wire.Text(in.Fact.Name) + nums(in.Fact.Period, in.Fact.Value)
	case api.InTrade:
		return kind + nums(in.A, in.B, in.C, in.N)
	case api.InPropose:
		return kind + nums(in.A) + wire.Text(in.Text)
	case api.InVote:
		return kind + nums(in.A, in.B, in.N)
	case api.InClose:
		return kind + nums(in.A)
	case api.InNotice:
		return kind + nums(in.A) + wire.Nums(in.Seats)
	}
	return kind + nums(in.A, in.N)
}

// Read returns the input with a text.
func Read(t string) (api.Input, api.Errno) {
	r := wire.Open(t)
	in := api.Input{Kind: r.Num()}
	switch in.Kind {
	case api.InDay:
		in.N = r.Num()
	case api.InCash, api.InCall:
		in.A, in.N = r.Num(), r.Num()
	case api.InFact:
		in.Fact = api.Fact{Issuer: r.Num(), Name: r.Text(), Period: r.Num(), Value: r.Num()}
	case api.InTrade:
		in.A, in.B, in.C, in.N = r.Num(), r.Num(), r.Num(), r.Num()
	case api.InPropose:
		in.A, in.Text = r.Num(), r.Text()
	case api.InVote:
		in.A, in.B, in.N = r.Num(), r.Num(), r.Num()
	case api.InClose:
		in.A = r.Num()
	case api.InNotice:
		in.A, in.Seats = r.Num(), r.Nums()
	}
	if !r.Done() || !Right(in) {
		return api.Input{}, api.ErrForm
	}
	return in, api.OK
}
