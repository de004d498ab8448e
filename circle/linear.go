package circle

import (
	"slices"

	"consol/api"
	"consol/frac"
	"consol/syntax"
)

// mostLooks is how many expressions are looked at for pieces.
const mostLooks = 1000

// about is what is known of the body of a definition.
type about struct {
	touches, sure, number bool
	value                 api.Frac
}

// search collects the pieces of an expression.
type search struct {
	lets    []api.Let
	about   []about
	names   []string
	looks   int
	weights []api.Frac
	parts   []api.Frac
	rests   []api.Exp
}

func whole(n int) api.Frac {
	f, _ := frac.Of(n, 1)
	return f
}

// Linear returns an expression of an indenture as a sum of weighted rates of some issues, and of weighted rests.
func Linear(x api.Indenture, e api.Exp, names []string) ([]api.Frac, []api.Frac, []api.Exp, api.Errno) {
	if !syntax.Right(x) || !syntax.RightExp(e) || !different(names) {
		return nil, nil, nil, api.ErrArg
	}
	s := &search{lets: x.Lets, names: names}
	for i, l := range x.Lets {
		if !s.scoped(l.Body, i) {
			return nil, nil, nil, api.ErrScope
		}
	}
	if !s.scoped(e, len(x.Lets)) {
		return nil, nil, nil, api.ErrScope
	}
	for _, l := range x.Lets {
		s.about = append(s.about, s.look(l.Body))
	}
	for range names {
		s.weights = append(s.weights, whole(0))
	}
	if no := s.pieces(e, whole(1)); no != api.OK {
		return nil, nil, nil, no
	}
	return s.weights, s.parts, s.rests, api.OK
}

func different(names []string) bool {
	if len(names) > api.MaxRows {
		return false
	}
	for i, s := range names {
		if !syntax.Name(s) || slices.Contains(names[:i], s) {
			return false
		}
	}
	return true
}

// let returns the index of a name among the definitions; it is -1 if there is none.
func (s *search) let(name string) int {
	return slices.IndexFunc(s.lets, func(l api.Let) bool { return l.Name == name })
}

// scoped reports whether all names of an expression stand for one of the first definitions.
func (s *search) scoped(e api.Exp, defined int) bool {
	if e.Op == api.ExName {
		i := s.let(e.S)
		return i >= 0 && i < defined
	}
	return !slices.ContainsFunc(e.Args, func(a api.Exp) bool { return !s.scoped(a, defined) })
}

func (s *search) look(e api.Exp) about {
	a := about{touches: s.touches(e), sure: s.sure(e)}
	a.value, a.number = s.number(e)
	return a
}

func (s *search) touches(e api.Exp) bool {
	switch e.Op {
	case api.ExRate:
		return slices.Contains(s.names, e.S)
	case api.ExName:
		return s.about[s.let(e.S)].touches
	}
	return slices.ContainsFunc(e.Args, s.touches)
}

// sure reports whether an expression is never negative.
func (s *search) sure(e api.Exp) bool {
	switch e.Op {
	case api.ExNum, api.ExFact, api.ExRate:
		return true
	case api.ExName:
		return s.about[s.let(e.S)].sure
	case api.ExAdd, api.ExMul, api.ExDiv, api.ExMin:
		return s.sure(e.Args[0]) && s.sure(e.Args[1])
	case api.ExMax:
		return s.sure(e.Args[0]) || s.sure(e.Args[1])
	case api.ExIf:
		return s.sure(e.Args[1]) && s.sure(e.Args[2])
	}
	return false
}

// number returns the value of an expression that is a number.
func (s *search) number(e api.Exp) (api.Frac, bool) {
	join := frac.Add
	switch e.Op {
	case api.ExNum:
		return whole(e.N), e.Unit == api.UnCount
	case api.ExName:
		a := s.about[s.let(e.S)]
		return a.value, a.number
	case api.ExAdd:
	case api.ExMul:
		join = frac.Mul
	case api.ExDiv:
		join = frac.Div
	default:
		return api.Frac{}, false
	}
	a, ok := s.number(e.Args[0])
	if !ok {
		return api.Frac{}, false
	}
	b, ok := s.number(e.Args[1])
	if !ok {
		return api.Frac{}, false
	}
	f, no := join(a, b)
	return f, no == api.OK
}

// pieces finds the pieces of an expression with a factor.
func (s *search) pieces(e api.Exp, f api.Frac) api.Errno {
	s.looks++
	if s.looks > mostLooks {
		return api.ErrFull
	}
	if !s.touches(e) {
		if !s.sure(e) {
			return api.ErrCycle
		}
		s.parts = append(s.parts, same(f))
		s.rests = append(s.rests, clone(e))
		return api.OK
	}
	switch e.Op {
	case api.ExRate:
		w := &s.weights[slices.Index(s.names, e.S)]
		sum, no := frac.Add(*w, f)
		if no != api.OK {
			return api.ErrFull
		}
		*w = sum
		return api.OK
	case api.ExName:
		return s.pieces(s.lets[s.let(e.S)].Body, f)
	case api.ExAdd:
		if no := s.pieces(e.Args[0], f); no != api.OK {
			return no
		}
		return s.pieces(e.Args[1], f)
	case api.ExMul:
		if n, ok := s.number(e.Args[0]); ok {
			return s.scaled(e.Args[1], f, n, frac.Mul)
		}
		if n, ok := s.number(e.Args[1]); ok {
			return s.scaled(e.Args[0], f, n, frac.Mul)
		}
	case api.ExDiv:
		if n, ok := s.number(e.Args[1]); ok && n.P.Sign != 0 {
			return s.scaled(e.Args[0], f, n, frac.Div)
		}
	}
	return api.ErrCycle
}

func (s *search) scaled(e api.Exp, f, n api.Frac, join func(a, b api.Frac) (api.Frac, api.Errno)) api.Errno {
	g, no := join(f, n)
	if no != api.OK {
		return api.ErrFull
	}
	return s.pieces(e, g)
}

func same(f api.Frac) api.Frac {
	return api.Frac{P: api.Big{Sign: f.P.Sign, Digits: slices.Clone(f.P.Digits)}, Q: api.Big{Sign: f.Q.Sign, Digits: slices.Clone(f.Q.Digits)}}
}

func clone(e api.Exp) api.Exp {
	c := e
	c.Args = nil
	for _, a := range e.Args {
		c.Args = append(c.Args, clone(a))
	}
	return c
}
