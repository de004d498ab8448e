package bearer_test

import (
	"math/rand"
	"slices"
	"testing"

	"consol/api"
	"consol/bearer"
)

func piece(units int) api.Piece {
	return api.Piece{Issue: 4, Units: units, Paid: make([]bool, 2), Lost: -1, Secured: -1}
}

func example() []api.Piece { return []api.Piece{piece(10), piece(20)} }

func wrongs() [][]api.Piece {
	var out [][]api.Piece
	for _, spoil := range []func(p *api.Piece){
		func(p *api.Piece) { p.Issue = -1 }, func(p *api.Piece) { p.Issue = 400 }, func(p *api.Piece) { p.Units = 0 }, func(p *api.Piece) { p.Units = api.MaxUnits + 1 }, func(p *api.Piece) { p.Paid = make([]bool, 401) },
		func(p *api.Piece) { p.Lost = -2 }, func(p *api.Piece) { p.Lost = 200001 }, func(p *api.Piece) { p.Secured = 3 }, func(p *api.Piece) { p.Lost, p.Secured = 3, -2 }, func(p *api.Piece) { p.Lost, p.Secured = 3, 20000 },
	} {
		p := piece(10)
		spoil(&p)
		out = append(out, []api.Piece{p})
	}
	return append(out, slices.Repeat(example()[:1], 1001))
}

func same(a, b []api.Piece) bool {
	return slices.EqualFunc(a, b, func(x, y api.Piece) bool {
		return x.Issue == y.Issue && x.Units == y.Units && slices.Equal(x.Paid, y.Paid) && x.Lost == y.Lost && x.Secured == y.Secured
	})
}

func TestP31_1Right(t *testing.T) {
	for i, w := range wrongs() {
		if bearer.Right(w) || bearer.Open(w, 4, 0) != 0 {
			t.Error(i)
		}
	}
	l := example()
	if !bearer.Right(l) || !bearer.Right(nil) || bearer.Open(l, 4, 0) != 30 || bearer.Open(l, 4, 2) != 0 || bearer.Open(l, 4, -1) != 0 || bearer.Open(l, 5, 0) != 0 {
		t.Error("open")
	}
	l[0].Paid[0] = true
	if bearer.Open(l, 4, 0) != 20 || bearer.Open(l, 4, 1) != 30 {
		t.Error("paid")
	}
}

func TestP31_2Present(t *testing.T) {
	l, n, e := bearer.Present(example(), 0, 1, 7, 5)
	if n != 10 || e != api.OK || !l[0].Paid[1] || l[0].Paid[0] {
		t.Error(l, n, e)
	}
	if m, n, e := bearer.Present(l, 0, 1, 7, 5); len(m) != 0 || n != 0 || e != api.ErrTwice {
		t.Error("twice")
	}
	for i, c := range []struct {
		piece, coupon, who, day int
		want                    api.Errno
	}{{2, 0, 7, 5, api.ErrNone}, {-1, 0, 7, 5, api.ErrNone}, {0, 2, 7, 5, api.ErrNone}, {0, -1, 7, 5, api.ErrNone}, {9, 0, -1, 5, api.ErrArg}, {0, 0, 20000, 5, api.ErrArg}, {0, 0, 7, -1, api.ErrArg}, {0, 0, 7, 200001, api.ErrArg}} {
		if l, _, e := bearer.Present(example(), c.piece, c.coupon, c.who, c.day); len(l) != 0 || e != c.want {
			t.Error(i, e)
		}
	}
	l, _ = bearer.Report(l, 1, 50)
	if _, _, e := bearer.Present(l, 1, 0, 7, 60); e != api.ErrKey {
		t.Error("lost", e)
	}
	l, _ = bearer.Secure(l, 1, 7)
	if _, _, e := bearer.Present(l, 1, 0, 7, 400); e != api.ErrEarly {
		t.Error("early", e)
	}
	if _, _, e := bearer.Present(l, 1, 0, 8, 400); e != api.ErrKey {
		t.Error("another one", e)
	}
	if _, _, e := bearer.Present(l, 1, 0, 7, 414); e != api.ErrEarly {
		t.Error("early", e)
	}
	l, n, e = bearer.Present(l, 1, 0, 7, 415)
	if n != 20 || e != api.OK || bearer.Open(l, 4, 0) != 10 || bearer.Open(l, 4, 1) != 20 {
		t.Error(n, e)
	}
	if _, _, e := bearer.Present(l, 1, 0, 8, 400); e != api.ErrTwice {
		t.Error("twice comes first", e)
	}
	for i, w := range wrongs() {
		if _, _, e := bearer.Present(w, 0, 0, 7, 5); e != api.ErrArg {
			t.Error(i)
		}
	}
}

func TestP31_3Lost(t *testing.T) {
	for i, w := range wrongs() {
		_, a := bearer.Report(w, 0, 5)
		_, b := bearer.Secure(w, 0, 5)
		_, c := bearer.Find(w, 0)
		if a != api.ErrArg || b != api.ErrArg || c != api.ErrArg {
			t.Error(i)
		}
	}
	for _, k := range []int{-1, 2} {
		_, a := bearer.Report(example(), k, 5)
		_, b := bearer.Secure(example(), k, 5)
		_, c := bearer.Find(example(), k)
		if a != api.ErrNone || b != api.ErrNone || c != api.ErrNone {
			t.Error(k)
		}
	}
	if _, e := bearer.Report(example(), 9, -1); e != api.ErrArg {
		t.Error("day")
	}
	if _, e := bearer.Secure(example(), 9, 20000); e != api.ErrArg {
		t.Error("seat")
	}
	if _, e := bearer.Secure(example(), 0, 5); e != api.ErrState {
		t.Error("secure")
	}
	if _, e := bearer.Find(example(), 0); e != api.ErrState {
		t.Error("find")
	}
	l, e := bearer.Report(example(), 0, 9)
	if e != api.OK || l[0].Lost != 9 || l[1].Lost != -1 {
		t.Error(l)
	}
	if m, e := bearer.Report(l, 0, 10); len(m) != 0 || e != api.ErrTwice {
		t.Error("twice")
	}
	l, e = bearer.Secure(l, 0, 5)
	if e != api.OK || l[0].Secured != 5 {
		t.Error(l)
	}
	if _, e := bearer.Secure(l, 0, 5); e != api.ErrTwice {
		t.Error("twice")
	}
	l, e = bearer.Find(l, 0)
	if e != api.OK || !same(l, example()) {
		t.Error(l)
	}
}

func TestP31_4Fresh(t *testing.T) {
	l := example()
	a, _, _ := bearer.Present(l, 0, 0, 1, 1)
	b, _ := bearer.Report(l, 0, 1)
	a[1].Paid[0], b[1].Paid[1], b[0].Paid[0] = true, true, true
	if !same(l, example()) {
		t.Error("shared")
	}
}

func TestP31_5Once(t *testing.T) {
	r := rand.New(rand.NewSource(1))
	for range 100 {
		l := example()
		paid, day := 0, 0
		for range 100 {
			day += r.Intn(60)
			k, who := r.Intn(2), r.Intn(2)
			var next []api.Piece
			n := 0
			e := api.OK
			switch r.Intn(5) {
			case 0:
				next, e = bearer.Report(l, k, day)
			case 1:
				next, e = bearer.Secure(l, k, who)
			case 2:
				next, e = bearer.Find(l, k)
			default:
				next, n, e = bearer.Present(l, k, r.Intn(2), who, day)
			}
			if e == api.OK {
				l = next
			}
			paid += n
			if paid+bearer.Open(l, 4, 0)+bearer.Open(l, 4, 1) != 60 {
				t.Fatal(l, paid)
			}
		}
	}
}

func TestP31_6Found(t *testing.T) {
	l, _ := bearer.Report(example(), 0, 0)
	l, _ = bearer.Secure(l, 0, 3)
	l, _, _ = bearer.Present(l, 0, 0, 3, 365)
	l, _ = bearer.Find(l, 0)
	if _, _, e := bearer.Present(l, 0, 0, 9, 366); e != api.ErrTwice {
		t.Error("paid in between")
	}
	if _, n, e := bearer.Present(l, 0, 1, 9, 366); n != 10 || e != api.OK {
		t.Error("pays again")
	}
}

func TestP31_7Others(t *testing.T) {
	l, _ := bearer.Report(example(), 0, 0)
	l, _ = bearer.Secure(l, 0, 3)
	l, _, _ = bearer.Present(l, 0, 0, 3, 365)
	if !same(l[1:], example()[1:]) {
		t.Error("changed")
	}
}

func TestP31_1Limits(t *testing.T) {
	p := api.Piece{Issue: 399, Units: api.MaxUnits, Paid: make([]bool, 400), Lost: 200000, Secured: 19999}
	q := api.Piece{Issue: 0, Units: 1, Lost: 0, Secured: 0}
	if !bearer.Right([]api.Piece{p, q}) || !bearer.Right(slices.Repeat([]api.Piece{q}, 1000)) {
		t.Error("limits")
	}
	if l, n, e := bearer.Present([]api.Piece{{Units: 1, Paid: []bool{false}, Lost: -1, Secured: -1}}, 0, 0, 0, 0); len(l) != 1 || n != 1 || e != api.OK {
		t.Error("the seat 0 on day 0", e)
	}
	for i, c := range [][2]int{{-1, 0}, {0, 2}, {3, 0}} {
		if l, n, e := bearer.Present(example(), c[0], c[1], 7, 5); len(l) != 0 || n != 0 || e != api.ErrNone {
			t.Error(i, n, e)
		}
	}
	if _, n, e := bearer.Present(wrongs()[0], 0, 0, 7, 5); n != 0 || e != api.ErrArg {
		t.Error(n, e)
	}
}

func TestP31_4Single(t *testing.T) {
	one := []api.Piece{{Units: 1, Paid: []bool{false}, Lost: -1, Secured: -1}}
	l, _, _ := bearer.Present(one, 0, 0, 0, 0)
	m, _ := bearer.Report(one, 0, 3)
	m[0].Paid[0] = true
	if one[0].Paid[0] || one[0].Lost != -1 || !l[0].Paid[0] {
		t.Error("shared")
	}
}
