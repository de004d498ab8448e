package agent_test

import (
	"math"
	"math/rand"
	"testing"

	"consol/agent"
	"consol/api"
)

func purse(trust, own int) api.Purse { return api.Purse{Trust: trust, Own: own} }

func wrongs() []api.Purse {
	return []api.Purse{purse(-1, 0), purse(0, -1), purse(api.MaxMoney+1, 0), purse(0, api.MaxMoney+1)}
}

type call = func(api.Purse, int) (api.Purse, api.Errno)

func TestP46_1Right(t *testing.T) {
	for i, w := range wrongs() {
		if agent.Right(w) {
			t.Error(i)
		}
	}
	if !agent.Right(purse(0, api.MaxMoney)) || !agent.Right(purse(api.MaxMoney, 0)) || !agent.Right(api.Purse{Gone: true}) {
		t.Error("right")
	}
}

func TestP46_2Calls(t *testing.T) {
	p := purse(10, 3)
	for i, c := range []struct {
		f    call
		n    int
		want api.Purse
		e    api.Errno
	}{
		{agent.Take, 5, purse(15, 3), api.OK}, {agent.Pay, 4, purse(6, 3), api.OK}, {agent.Pay, 10, purse(0, 3), api.OK}, {agent.Pay, 11, p, api.ErrFew}, {agent.Earn, 5, purse(10, 8), api.OK}, {agent.Spend, 3, purse(10, 0), api.OK}, {agent.Spend, 4, p, api.ErrFew},
		{agent.Take, api.MaxMoney - 10, purse(api.MaxMoney, 3), api.OK}, {agent.Take, api.MaxMoney - 9, p, api.ErrFull}, {agent.Earn, api.MaxMoney - 2, p, api.ErrFull},
	} {
		if q, e := c.f(p, c.n); q != c.want || e != c.e {
			t.Error(i, q, e)
		}
	}
	for i, f := range []call{agent.Take, agent.Pay, agent.Earn, agent.Spend} {
		for _, n := range []int{0, -1, api.MaxMoney + 1, math.MaxInt, math.MinInt} {
			if q, e := f(p, n); q != p || e != api.ErrArg {
				t.Error(i, n, e)
			}
		}
		for _, w := range wrongs() {
			w.Gone = true
			if q, e := f(w, 1); q != w || e != api.ErrArg {
				t.Error(i, w, e)
			}
		}
		gone := api.Purse{Own: 3, Gone: true}
		if q, e := f(gone, 1); q != gone || e != api.ErrState {
			t.Error(i, e)
		}
	}
}

func TestP46_3Pass(t *testing.T) {
	p, q := purse(10, 3), purse(1, 2)
	if a, b, e := agent.Pass(p, q, 4); a != purse(6, 3) || b != purse(5, 2) || e != api.OK {
		t.Error(a, b, e)
	}
	if a, b, e := agent.Pass(p, p, 4); a != purse(6, 3) || b != purse(14, 3) || e != api.OK {
		t.Error("equal purses", a, b, e)
	}
	gone := api.Purse{Gone: true}
	for i, c := range []struct {
		p, q api.Purse
		n    int
		want api.Errno
	}{{p, q, 11, api.ErrFew}, {p, q, 0, api.ErrArg}, {p, wrongs()[0], 4, api.ErrArg}, {gone, q, 4, api.ErrState}, {p, gone, 4, api.ErrState}, {p, purse(api.MaxMoney, 0), 4, api.ErrFull}, {p, gone, 11, api.ErrFew}} {
		if a, b, e := agent.Pass(c.p, c.q, c.n); a != c.p || b != c.q || e != c.want {
			t.Error(i, e)
		}
	}
}

func TestP46_4Break(t *testing.T) {
	if p, n, e := agent.Break(purse(10, 3)); p != (api.Purse{Own: 3, Gone: true}) || n != 10 || e != api.OK {
		t.Error(p, n, e)
	}
	for i, w := range wrongs() {
		if p, n, e := agent.Break(w); p != w || n != 0 || e != api.ErrArg {
			t.Error(i)
		}
	}
	gone := api.Purse{Own: 3, Gone: true}
	if p, n, e := agent.Break(gone); p != gone || n != 0 || e != api.ErrState {
		t.Error("gone")
	}
}

func TestP46_5Pure(t *testing.T) {
	p := purse(10, 3)
	agent.Take(p, 5)
	agent.Break(p)
	if p != purse(10, 3) {
		t.Error("changed")
	}
}

func TestP46_6Trust(t *testing.T) {
	r := rand.New(rand.NewSource(1))
	for range 200 {
		purses := []api.Purse{{}, {}, {}}
		taken, paid, back, own := 0, 0, 0, 0
		for range 60 {
			i, k, n := r.Intn(3), r.Intn(3), 1+r.Intn(9)
			var e api.Errno
			before := purses[i]
			switch r.Intn(12) {
			case 0, 1, 2:
				if purses[i], e = agent.Take(before, n); e == api.OK {
					taken += n
				}
			case 3, 4:
				if purses[i], e = agent.Pay(before, n); e == api.OK {
					paid += n
				}
			case 5, 6:
				if purses[i], e = agent.Earn(before, n); e == api.OK {
					own += n
				}
			case 7:
				if purses[i], e = agent.Spend(before, n); e == api.OK {
					own -= n
				}
			case 8, 9, 10:
				if i != k {
					purses[i], purses[k], _ = agent.Pass(before, purses[k], n)
				}
			default:
				if p, m, e := agent.Break(before); e == api.OK && r.Intn(4) == 0 {
					purses[i] = p
					back += m
				}
			}
			trust, owns := 0, 0
			for _, p := range purses {
				trust += p.Trust
				owns += p.Own
			}
			if taken != paid+back+trust || owns != own {
				t.Fatal(purses)
			}
		}
	}
}

func TestP46_7Back(t *testing.T) {
	p, q := purse(10, 3), purse(1, 2)
	a, _ := agent.Take(p, 7)
	if a, _ = agent.Pay(a, 7); a != p {
		t.Error("paid")
	}
	b, c, _ := agent.Pass(p, q, 7)
	if c, b, _ = agent.Pass(c, b, 7); b != p || c != q {
		t.Error("passed back")
	}
}

func TestP46_8Gone(t *testing.T) {
	p, _, _ := agent.Break(purse(10, 3))
	for i, f := range []call{agent.Take, agent.Pay, agent.Earn, agent.Spend} {
		if _, e := f(p, 1); e != api.ErrState {
			t.Error(i)
		}
	}
	if _, _, e := agent.Break(p); e != api.ErrState {
		t.Error("break")
	}
}
