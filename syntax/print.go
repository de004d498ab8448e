package syntax

import (
	"strconv"
	"strings"

	"consol/api"
	"consol/date"
)

type printer struct{ b strings.Builder }

// part writes the words of a part as a line.
func (w *printer) part(words ...string) {
	w.b.WriteString(strings.Join(words, " "))
	w.b.WriteString(" ;\n")
}

func dateWords(day int) string {
	y, m, d, _ := date.Parts(day)
	return strconv.Itoa(y) + " - " + strconv.Itoa(m) + " - " + strconv.Itoa(d)
}

func countWord(n int) string {
	switch n {
	case api.CoThirty:
		return "thirty"
	case api.CoFixed:
		return "fixed"
	}
	return "actual"
}

func adjustWord(n int) string {
	switch n {
	case api.AdNone:
		return "none"
	case api.AdNext:
		return "next"
	case api.AdModified:
		return "modified"
	}
	return "before"
}

// Print returns the canonical text of an indenture.
func Print(x api.Indenture) (string, api.Errno) {
	if !Right(x) {
		return "", api.ErrArg
	}
	var w printer
	w.terms(x)
	w.clauses(x)
	return fit(w.b.String())
}

func (w *printer) terms(x api.Indenture) {
	w.part("issue", x.Name, "of", x.Issuer)
	w.part("face", strconv.Itoa(x.Face))
	w.part("from", dateWords(x.From), "to", dateWords(x.To), "every", strconv.Itoa(x.Every), "months")
	w.part("count", countWord(x.Count))
	w.part("adjust", adjustWord(x.Adjust))
	w.part("record", strconv.Itoa(x.Record))
	w.part("rank", strconv.Itoa(x.Rank))
	for _, l := range x.Lets {
		w.part("let", l.Name, "=", expText(l.Body))
	}
	w.part("coupon", expText(x.Coupon))
	w.part("cap", strconv.Itoa(x.Cap))
}

func (w *printer) clauses(x api.Indenture) {
	for _, c := range x.Covenants {
		w.part("covenant", c.Name, "must", expText(c.Must), "grace", strconv.Itoa(c.Grace))
	}
	if len(x.Favour) > 0 {
		w.part("favour", strings.Join(x.Favour, " "))
	}
	if x.Cross != -1 {
		w.part("cross", strconv.Itoa(x.Cross))
	}
	for _, c := range x.Calls {
		w.part("call", dateWords(c.From), "at", strconv.Itoa(c.Price))
	}
	if x.Notice != 0 {
		w.part("notice", strconv.Itoa(x.Notice))
	}
	if x.Sink != 0 {
		w.part("sink", strconv.Itoa(x.Sink))
	}
	w.part("majority", strconv.Itoa(x.Majority))
	w.part("fast", strconv.Itoa(x.Fast))
}
