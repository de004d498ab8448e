package syntax

import (
	"slices"

	"consol/api"
	"consol/date"
	"consol/lex"
)

// fault is the panic of a parser at the first error.
type fault struct {
	at int
	e  api.Errno
}

type parser struct {
	tokens []api.Token
	at     int
}

func open(s string) *parser {
	l, at, e := lex.Lex(s)
	if e != api.OK {
		panic(fault{at, e})
	}
	return &parser{tokens: l}
}

func (p *parser) token() api.Token { return p.tokens[p.at] }

// fail reports an error at the current token.
func (p *parser) fail(e api.Errno) { panic(fault{p.token().Pos, e}) }

func (p *parser) need(ok bool, e api.Errno) {
	if !ok {
		p.fail(e)
	}
}

func (p *parser) is(text string) bool {
	t := p.token()
	return t.Kind != api.TkEnd && t.Text == text
}

// skip passes the token with a text, if it is the current one.
func (p *parser) skip(text string) bool {
	if !p.is(text) {
		return false
	}
	p.at++
	return true
}

// words passes tokens that have to stand there.
func (p *parser) words(texts ...string) {
	for _, s := range texts {
		p.need(p.skip(s), api.ErrSyntax)
	}
}

func (p *parser) end() { p.need(p.token().Kind == api.TkEnd, api.ErrSyntax) }

// oneOf passes one of some tokens, and returns its index.
func (p *parser) oneOf(texts ...string) int {
	i := slices.IndexFunc(texts, p.is)
	p.need(i >= 0, api.ErrSyntax)
	p.at++
	return i
}

func (p *parser) isName() bool { return p.token().Kind == api.TkWord && Name(p.token().Text) }

// name passes a name that is none of those before it, of which there are fewer than most.
func (p *parser) name(before []string, most int) string {
	p.need(p.isName(), api.ErrSyntax)
	p.need(len(before) < most, api.ErrFull)
	s := p.token().Text
	p.need(!slices.Contains(before, s), api.ErrTwice)
	p.at++
	return s
}

func (p *parser) anyName() string { return p.name(nil, 1) }

func (p *parser) number(least, most int) int {
	p.need(p.token().Kind == api.TkNumber, api.ErrSyntax)
	n := p.token().N
	p.need(within(n, least, most), api.ErrRange)
	p.at++
	return n
}

// date passes a date that is later than a day.
func (p *parser) date(after int) int {
	y := p.number(0, api.MaxNumber)
	p.words("-")
	m := p.number(0, api.MaxNumber)
	p.words("-")
	p.need(p.token().Kind == api.TkNumber, api.ErrSyntax)
	day, e := date.Of(y, m, p.token().N)
	p.need(e == api.OK, api.ErrDate)
	p.need(day > after, api.ErrRange)
	p.at++
	return day
}

// whole passes an expression that is not part of another one, and the word after it.
func (p *parser) whole(after string) api.Exp {
	e := p.exp()
	p.need(p.is(after), api.ErrSyntax)
	p.need(levels(e) <= api.MaxDepth, api.ErrFull)
	p.at++
	return e
}

// entry passes a word and a number as a part.
func (p *parser) entry(word string, least, most int) int {
	p.words(word)
	n := p.number(least, most)
	p.words(";")
	return n
}

// optional is like entry for a part that may be missing.
func (p *parser) optional(word string, missing, most int) int {
	if !p.is(word) {
		return missing
	}
	return p.entry(word, 0, most)
}

// another reports whether a part begins here, and passes its first word.
func (p *parser) another(word string, have, most int) bool {
	if !p.is(word) {
		return false
	}
	p.need(have < most, api.ErrFull)
	p.at++
	return true
}

func (p *parser) indenture() api.Indenture {
	var x api.Indenture
	p.words("issue")
	x.Name = p.anyName()
	p.words("of")
	x.Issuer = p.anyName()
	p.words(";")
	x.Face = p.entry("face", 1, api.MaxMoney)
	p.words("from")
	x.From = p.date(-1)
	p.words("to")
	x.To = p.date(x.From)
	p.words("every")
	x.Every = p.number(1, mostEvery)
	p.words("months", ";", "count")
	x.Count = p.oneOf("thirty", "fixed", "actual")
	p.words(";", "adjust")
	x.Adjust = p.oneOf("none", "next", "modified", "before")
	p.words(";")
	x.Record = p.entry("record", 0, mostRecord)
	x.Rank = p.entry("rank", 0, api.MaxRanks-1)
	x.Lets = p.lets()
	p.words("coupon")
	x.Coupon = p.whole(";")
	x.Cap = p.entry("cap", 0, mostPercent)
	x.Covenants = p.covenants()
	x.Favour = p.favour()
	x.Cross = p.optional("cross", -1, api.MaxMoney)
	x.Calls = p.calls()
	x.Notice = p.optional("notice", 0, mostDays)
	x.Sink = p.optional("sink", 0, mostDays)
	x.Majority = p.entry("majority", 1, api.PerMille)
	x.Fast = p.entry("fast", 1, api.PerMille)
	return x
}

func (p *parser) lets() []api.Let {
	var l []api.Let
	var names []string
	for p.another("let", len(l), api.MaxLets) {
		name := p.name(names, api.MaxLets)
		p.words("=")
		l = append(l, api.Let{Name: name, Body: p.whole(";")})
		names = append(names, name)
	}
	return l
}

func (p *parser) covenants() []api.Covenant {
	var l []api.Covenant
	var names []string
	for p.another("covenant", len(l), api.MaxClauses) {
		name := p.name(names, api.MaxClauses)
		p.words("must")
		must := p.whole("grace")
		grace := p.number(0, mostDays)
		p.words(";")
		l = append(l, api.Covenant{Name: name, Must: must, Grace: grace})
		names = append(names, name)
	}
	return l
}

func (p *parser) favour() []string {
	if !p.skip("favour") {
		return nil
	}
	l := []string{p.anyName()}
	for p.isName() {
		l = append(l, p.name(l, api.MaxClauses))
	}
	p.words(";")
	return l
}

func (p *parser) calls() []api.Call {
	var l []api.Call
	for p.another("call", len(l), api.MaxClauses) {
		from := p.date(-1)
		p.words("at")
		l = append(l, api.Call{From: from, Price: p.number(0, mostPercent)})
		p.words(";")
	}
	return l
}
