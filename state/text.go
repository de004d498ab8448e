package state

import (
	"strings"

	"consol/api"
	"consol/wire"
)

// list writes the number of elements of a list, and each of them.
func list[T any](l []T, write func(T) string) string {
	var b strings.Builder
	b.WriteString(wire.Num(len(l)))
	for _, v := range l {
		b.WriteString(write(v))
	}
	return b.String()
}

// readList reads what list has written; it stops when the reader fails.
func readList[T any](r *wire.Reader, read func() T) []T {
	var l []T
	for range r.Num() {
		v := read()
		if r.Left() == 0 && !r.Done() {
			return nil
		}
		l = append(l, v)
	}
	return l
}

// nums writes numbers that are not negative.
func nums(l ...int) string {
	var b strings.Builder
	for _, n := range l {
		b.WriteString(wire.Num(n))
	}
	return b.String()
}

func truth(b bool) int {
	if b {
		return 1
	}
	return 0
}

// Text returns the text of a state.
func Text(s api.State) string {
	if !Right(s) {
		return ""
	}
	return wire.Num(s.Day) + list(s.Cash, wire.Num) + list(s.Purses, wire.Num) + wire.Int(s.Outside) +
		list(s.Lines, lineText) +
		list(s.Facts, func(f api.Fact) string { return nums(f.Issuer) + wire.Text(f.Name) + nums(f.Period, f.Value, f.Day) }) +
		list(s.Payments, func(p api.Payment) string { return nums(p.Issue, p.Seat, p.Day, p.Due, p.Paid) + wire.Int(p.Period) }) +
		list(s.Proposals, proposalText)
}

func lineText(l api.Line) string {
	stages := list(l.Stages, func(b api.Breach) string { return nums(b.Stage, b.Since) })
	return wire.Text(l.Text) + wire.Nums(l.Units) + wire.Nums(l.Noted) + wire.Int(l.NotedAt) + stages +
		wire.Int(l.Fast) + wire.Int(l.Called) + nums(l.Price, truth(l.Ended), l.Since)
}

func proposalText(p api.Proposal) string {
	votes := list(p.Votes, func(v api.Vote) string { return nums(v.Seat, v.Day, truth(v.Yes)) })
	return nums(p.Issue) + wire.Text(p.Text) + nums(p.Day) + wire.Nums(p.Units) + votes + nums(truth(p.Closed))
}

// Read returns the state that a text says.
func Read(t string) (api.State, api.Errno) {
	r := wire.Open(t)
	s := api.State{Day: r.Num(), Cash: readList(r, r.Num), Purses: readList(r, r.Num), Outside: r.Int()}
	s.Lines = readList(r, func() api.Line { return readLine(r) })
	s.Facts = readList(r, func() api.Fact {
		return api.Fact{Issuer: r.Num(), Name: r.Text(), Period: r.Num(), Value: r.Num(), Day: r.Num()}
	})
	s.Payments = readList(r, func() api.Payment {
		return api.Payment{Issue: r.Num(), Seat: r.Num(), Day: r.Num(), Due: r.Num(), Paid: r.Num(), Period: r.Int()}
	})
	s.Proposals = readList(r, func() api.Proposal { return readProposal(r) })
	// A truth value that is neither 1 nor 0 is written otherwise.
	if !r.Done() || Text(s) != t {
		return api.State{}, api.ErrForm
	}
	return s, api.OK
}

func readLine(r *wire.Reader) api.Line {
	l := api.Line{Text: r.Text(), Units: r.Nums(), Noted: r.Nums(), NotedAt: r.Int()}
	l.Stages = readList(r, func() api.Breach { return api.Breach{Stage: r.Num(), Since: r.Num()} })
	l.Fast, l.Called, l.Price = r.Int(), r.Int(), r.Num()
	l.Ended, l.Since = r.Num() == 1, r.Num()
	return l
}

func readProposal(r *wire.Reader) api.Proposal {
	p := api.Proposal{Issue: r.Num(), Text: r.Text(), Day: r.Num(), Units: r.Nums()}
	p.Votes = readList(r, func() api.Vote { return api.Vote{Seat: r.Num(), Day: r.Num(), Yes: r.Num() == 1} })
	p.Closed = r.Num() == 1
	return p
}
