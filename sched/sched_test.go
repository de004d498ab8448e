package sched_test

import (
	"math/rand"
	"slices"
	"testing"

	"consol/api"
	"consol/cal"
	"consol/date"
	"consol/sched"
)

func weekend() api.Calendar { return api.Calendar{Rest: []int{5, 6}} }

func terms(from, to, every, adjust, record int) api.Indenture {
	return api.Indenture{From: from, To: to, Every: every, Adjust: adjust, Record: record}
}

func TestP10_1Periods(t *testing.T) {
	l, e := sched.Periods(terms(46051, 46125, 1, api.AdNext, 2), weekend())
	want := []api.Period{{From: 46051, To: 46079, Pay: 46081, Record: 46077}, {From: 46079, To: 46110, Pay: 46110, Record: 46106}, {From: 46110, To: 46125, Pay: 46125, Record: 46123}}
	if e != api.OK || !slices.Equal(l, want) {
		t.Error(l, e)
	}
	for _, x := range []api.Indenture{terms(-1, 5, 1, 0, 0), terms(5, 5, 1, 0, 0), terms(0, 200001, 1, 0, 0), terms(0, 5, 0, 0, 0), terms(0, 5, 1201, 0, 0), terms(0, 5, 1, -1, 0), terms(0, 5, 1, api.AdKinds, 0), terms(0, 5, 1, 0, -1), terms(0, 5, 1, 0, 1001)} {
		if l, e := sched.Periods(x, weekend()); len(l) != 0 || e != api.ErrArg {
			t.Error(x, e)
		}
	}
	if _, e := sched.Periods(terms(0, 50, 1, 0, 0), api.Calendar{Rest: []int{9}}); e != api.ErrArg {
		t.Error("calendar")
	}
	if l, e := sched.Periods(terms(0, 50, 1, 0, 30), weekend()); len(l) != 0 || e != api.ErrRange {
		t.Error("back", e)
	}
	if _, e := sched.Periods(terms(199000, 200000, 1, api.AdNext, 0), api.Calendar{Days: []int{200000}}); e != api.ErrRange {
		t.Error("adjust")
	}
	if l, e := sched.Periods(terms(0, 200000, 1200, api.AdNone, 0), weekend()); e != api.OK || len(l) != 6 || l[5].To != 200000 {
		t.Error("long", l)
	}
	if l, _ := sched.Periods(terms(0, 31, 1, api.AdNone, 0), weekend()); len(l) != 1 {
		t.Error("a bound at the end", l)
	}
}

func TestP10_2AtAndDue(t *testing.T) {
	l := []api.Period{{From: 5, To: 9, Pay: 9}, {From: 0, To: 20, Pay: 30}, {From: 7, To: 7, Pay: 9}}
	for day, want := range map[int]int{5: 0, 8: 0, 9: 1, 4: 1, 0: 1, 19: 1} {
		if i, ok := sched.At(l, day); i != want || !ok {
			t.Error(day, i)
		}
	}
	if i, ok := sched.At(l, 20); i != 0 || ok {
		t.Error("none")
	}
	if _, ok := sched.At(nil, 20); ok {
		t.Error("none")
	}
	if !slices.Equal(sched.Due(l, 9), []int{0, 2}) || !slices.Equal(sched.Due(l, 30), []int{1}) || len(sched.Due(l, 31)) != 0 {
		t.Error("due")
	}
}

func TestP10_3Pure(t *testing.T) {
	c := weekend()
	a, _ := sched.Periods(terms(0, 500, 1, api.AdNext, 0), c)
	a[0].Pay = -9
	b, _ := sched.Periods(terms(0, 500, 1, api.AdNext, 0), c)
	if b[0].Pay == -9 || !slices.Equal(c.Rest, []int{5, 6}) {
		t.Error("shared")
	}
}

func random(r *rand.Rand) (api.Indenture, api.Calendar) {
	c := weekend()
	for day := 30000; day < 40000; day += 1 + r.Intn(60) {
		c.Days = append(c.Days, day)
	}
	from := 30000 + r.Intn(3000)
	return terms(from, from+1+r.Intn(4000), 1+r.Intn(15), r.Intn(api.AdKinds), r.Intn(6)), c
}

func TestP10_4Cover(t *testing.T) {
	r := rand.New(rand.NewSource(1))
	for range 300 {
		x, c := random(r)
		l, _ := sched.Periods(x, c)
		at := x.From
		for i, p := range l {
			if p.From != at || p.To <= p.From {
				t.Fatal(l)
			}
			if k, ok := sched.At(l, p.From); k != i || !ok {
				t.Fatal(k)
			}
			at = p.To
		}
		if at != x.To {
			t.Fatal(at)
		}
	}
}

func TestP10_5Drift(t *testing.T) {
	r := rand.New(rand.NewSource(2))
	for range 300 {
		x, c := random(r)
		l, _ := sched.Periods(x, c)
		_, _, d, _ := date.Parts(x.From)
		for k, p := range l[:len(l)-1] {
			y, m, e, _ := date.Parts(p.To)
			if e != min(d, date.Last(y, m)) {
				t.Fatal(p)
			}
			z, n, _, _ := date.Parts(l[k].From)
			if 12*(y-z)+m-n != x.Every {
				t.Fatal(p)
			}
		}
	}
}

func TestP10_6Payments(t *testing.T) {
	r := rand.New(rand.NewSource(3))
	for range 300 {
		x, c := random(r)
		l, _ := sched.Periods(x, c)
		before := 0
		for _, p := range l {
			if x.Adjust == api.AdNone && p.Pay != p.To || x.Adjust != api.AdNone && !cal.Business(c, p.Pay) || x.Adjust == api.AdNext && p.Pay < p.To || x.Adjust == api.AdBefore && p.Pay > p.To || p.Pay < before {
				t.Fatal(x, p)
			}
			before = p.Pay
			n := 0
			for day := p.Record; day < p.Pay; day++ {
				if cal.Business(c, day) {
					n++
				}
			}
			if n != x.Record {
				t.Fatal(x, p, n)
			}
		}
	}
}

func TestP10_7Earlier(t *testing.T) {
	r := rand.New(rand.NewSource(4))
	for range 300 {
		x, c := random(r)
		l, _ := sched.Periods(x, c)
		y := x
		y.To = x.From + 1 + r.Intn(x.To-x.From)
		m, _ := sched.Periods(y, c)
		n := len(m) - 1
		if !slices.Equal(l[:n], m[:n]) || m[n].From != l[n].From || m[n].To > l[n].To {
			t.Fatal(x, y)
		}
	}
}

func TestP10_1Limits(t *testing.T) {
	l, e := sched.Periods(terms(100000, 100400, 1200, api.AdBefore, 1000), api.Calendar{})
	if e != api.OK || len(l) != 1 || l[0] != (api.Period{From: 100000, To: 100400, Pay: 100400, Record: 99400}) {
		t.Error(l, e)
	}
}
