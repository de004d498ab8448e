package syntax

import (
	"strconv"
	"strings"

	"consol/api"
)

// The forms of expressions of the grammar: each one permits those after it.
const (
	formIf = iota
	formOr
	formAnd
	formNot
	formCompare
	formSum
	formProduct
	formAtom
)

func form(op int) int {
	switch op {
	case api.ExIf:
		return formIf
	case api.ExOr:
		return formOr
	case api.ExAnd:
		return formAnd
	case api.ExNot:
		return formNot
	case api.ExLess, api.ExEq:
		return formCompare
	case api.ExAdd, api.ExSub:
		return formSum
	case api.ExMul, api.ExDiv:
		return formProduct
	}
	return formAtom
}

// sign returns the token of an operation.
func sign(op int) string {
	switch op {
	case api.ExOr:
		return "or"
	case api.ExAnd:
		return "and"
	case api.ExLess:
		return "<"
	case api.ExEq:
		return "=="
	case api.ExAdd:
		return "+"
	case api.ExSub:
		return "-"
	case api.ExMul:
		return "*"
	case api.ExDiv:
		return "/"
	case api.ExMin:
		return "min"
	case api.ExMax:
		return "max"
	case api.ExEver:
		return "ever"
	case api.ExLong:
		return "long"
	case api.ExSoon:
		return "soon"
	case api.ExFact:
		return "fact"
	}
	return "rate"
}

func binary(op int, a, b api.Exp) api.Exp { return api.Exp{Op: op, Args: []api.Exp{a, b}} }

// exp reads E0.
func (p *parser) exp() api.Exp {
	if !p.skip("if") {
		return p.or()
	}
	a := p.exp()
	p.words("then")
	b := p.exp()
	p.words("else")
	return api.Exp{Op: api.ExIf, Args: []api.Exp{a, b, p.exp()}}
}

func (p *parser) or() api.Exp { return p.chain(p.and, api.ExOr) }

func (p *parser) and() api.Exp { return p.chain(p.not, api.ExAnd) }

func (p *parser) sum() api.Exp { return p.chain(p.product, api.ExAdd, api.ExSub) }

func (p *parser) product() api.Exp { return p.chain(p.atom, api.ExMul, api.ExDiv) }

// chain reads operands, and applies the operators between them from left to right.
func (p *parser) chain(operand func() api.Exp, ops ...int) api.Exp {
	e := operand()
	for {
		op, ok := p.operator(ops)
		if !ok {
			return e
		}
		e = binary(op, e, operand())
	}
}

func (p *parser) operator(ops []int) (int, bool) {
	for _, op := range ops {
		if p.skip(sign(op)) {
			return op, true
		}
	}
	return 0, false
}

func (p *parser) not() api.Exp {
	if p.skip("not") {
		return api.Exp{Op: api.ExNot, Args: []api.Exp{p.not()}}
	}
	e := p.sum()
	if op, ok := p.operator([]int{api.ExEq, api.ExLess}); ok {
		return binary(op, e, p.sum())
	}
	return e
}

// atom reads E7.
func (p *parser) atom() api.Exp {
	if p.token().Kind == api.TkNumber {
		return p.amount()
	}
	if p.isName() {
		return api.Exp{Op: api.ExName, S: p.anyName()}
	}
	const boolean = api.UnBool
	switch p.oneOf("true", "false", "fact", "rate", "min", "max", "ever", "long", "soon", "(") {
	case 0:
		return api.Exp{Op: api.ExNum, N: 1, Unit: boolean}
	case 1:
		return api.Exp{Op: api.ExNum, Unit: boolean}
	case 2:
		return api.Exp{Op: api.ExFact, S: p.anyName()}
	case 3:
		return api.Exp{Op: api.ExRate, S: p.anyName()}
	case 4:
		return p.pair(api.ExMin)
	case 5:
		return p.pair(api.ExMax)
	case 6:
		return p.days(api.ExEver)
	case 7:
		return p.days(api.ExLong)
	case 8:
		return p.days(api.ExSoon)
	}
	e := p.exp()
	p.words(")")
	return e
}

func (p *parser) amount() api.Exp {
	e := api.Exp{Op: api.ExNum, N: p.number(0, api.MaxNumber)}
	switch {
	case p.skip("coins"):
		e.Unit = api.UnMoney
	case p.skip("days"):
		e.Unit = api.UnDays
	case p.skip("mille"):
		e.Unit = api.UnRate
	}
	return e
}

func (p *parser) pair(op int) api.Exp {
	p.words("(")
	a := p.exp()
	p.words(",")
	b := p.exp()
	p.words(")")
	return binary(op, a, b)
}

func (p *parser) days(op int) api.Exp {
	n := p.number(1, mostDays)
	p.words("(")
	e := p.exp()
	p.words(")")
	return api.Exp{Op: op, N: n, Args: []api.Exp{e}}
}

// appendExp appends the canonical tokens of an expression, in parentheses if its form comes before the one that is permitted.
func appendExp(l []string, e api.Exp, permitted int) []string {
	if form(e.Op) < permitted {
		return append(appendExp(append(l, "("), e, formIf), ")")
	}
	switch e.Op {
	case api.ExNum:
		return append(l, amountWords(e)...)
	case api.ExName:
		return append(l, e.S)
	case api.ExFact, api.ExRate:
		return append(l, sign(e.Op), e.S)
	case api.ExMin, api.ExMax:
		l = appendExp(append(l, sign(e.Op), "("), e.Args[0], formIf)
		return append(appendExp(append(l, ","), e.Args[1], formIf), ")")
	case api.ExEver, api.ExLong, api.ExSoon:
		return append(appendExp(append(l, sign(e.Op), strconv.Itoa(e.N), "("), e.Args[0], formIf), ")")
	case api.ExNot:
		return appendExp(append(l, "not"), e.Args[0], formNot)
	case api.ExIf:
		l = appendExp(append(l, "if"), e.Args[0], formIf)
		l = appendExp(append(l, "then"), e.Args[1], formIf)
		return appendExp(append(l, "else"), e.Args[2], formIf)
	}
	f := form(e.Op)
	left := f
	if f == formCompare {
		left = formSum
	}
	return appendExp(append(appendExp(l, e.Args[0], left), sign(e.Op)), e.Args[1], f+1)
}

func amountWords(e api.Exp) []string {
	n := strconv.Itoa(e.N)
	switch e.Unit {
	case api.UnMoney:
		return []string{n, "coins"}
	case api.UnDays:
		return []string{n, "days"}
	case api.UnRate:
		return []string{n, "mille"}
	case api.UnBool:
		return []string{strconv.FormatBool(e.N == 1)}
	}
	return []string{n}
}

func expText(e api.Exp) string { return strings.Join(appendExp(nil, e, formIf), " ") }

// fit refuses a text that is too long.
func fit(s string) (string, api.Errno) {
	if len(s) > api.MaxSource {
		return "", api.ErrFull
	}
	return s, api.OK
}

// PrintExp returns the canonical text of an expression.
func PrintExp(e api.Exp) (string, api.Errno) {
	if !RightExp(e) {
		return "", api.ErrArg
	}
	return fit(expText(e))
}
