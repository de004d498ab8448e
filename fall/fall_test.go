package fall_test

import (
	"math/rand"
	"slices"
	"testing"

	"consol/api"
	"consol/fall"
)

func example() api.Deal {
	return api.Deal{Collateral: 1000, Reserve: 10, Tranches: []api.Tranche{{Balance: 600, Due: 30}, {Balance: 300, Due: 20}}, Tests: []api.Test{{Upto: 2, Limit: 880}},
		Steps: []api.Step{{Kind: api.StPay, N: 0}, {Kind: api.StPay, N: 1}, {Kind: api.StFill, Amount: 15}, {Kind: api.StTrap}, {Kind: api.StRest}}}
}

func spoils() []func(d *api.Deal) {
	return []func(d *api.Deal){
		func(d *api.Deal) { d.Collateral = -1 }, func(d *api.Deal) { d.Reserve = api.MaxMoney + 1 }, func(d *api.Deal) { d.Trapped = -1 }, func(d *api.Deal) { d.Equity = -1 },
		func(d *api.Deal) { d.Tranches = make([]api.Tranche, 41) }, func(d *api.Deal) { d.Tests = slices.Repeat(d.Tests, 41) }, func(d *api.Deal) { d.Steps = slices.Repeat(d.Steps[:1], 41) },
		func(d *api.Deal) { d.Tranches[0].Balance = -1 }, func(d *api.Deal) { d.Tranches[1].Due = api.MaxMoney + 1 }, func(d *api.Deal) { d.Tests[0].Upto = 0 }, func(d *api.Deal) { d.Tests[0].Upto = 3 }, func(d *api.Deal) { d.Tests[0].Limit = 2001 }, func(d *api.Deal) { d.Tests[0].Limit = -1 },
		func(d *api.Deal) { d.Steps[0].N = 2 }, func(d *api.Deal) { d.Steps[0].N = -1 }, func(d *api.Deal) { d.Steps[0].Amount = 1 }, func(d *api.Deal) { d.Steps[2].N = 1 }, func(d *api.Deal) { d.Steps[2].Amount = -1 }, func(d *api.Deal) { d.Steps[3].N = 1 }, func(d *api.Deal) { d.Steps[3].Amount = 1 },
		func(d *api.Deal) { d.Steps[4].N = 1 }, func(d *api.Deal) { d.Steps[4].Amount = 1 }, func(d *api.Deal) { d.Steps[0].Kind = -1 }, func(d *api.Deal) { d.Steps[0].Kind = api.StKinds }, func(d *api.Deal) { d.Steps[0] = api.Step{Kind: api.StDown, N: 2} },
	}
}

func same(a, b api.Deal) bool {
	return a.Collateral == b.Collateral && a.Reserve == b.Reserve && a.Trapped == b.Trapped && a.Equity == b.Equity &&
		slices.Equal(a.Tranches, b.Tranches) && slices.Equal(a.Tests, b.Tests) && slices.Equal(a.Steps, b.Steps)
}

func TestP23_1Right(t *testing.T) {
	d := example()
	if !fall.Right(d) || !fall.Right(api.Deal{}) || fall.Passed(d, 0) || fall.Passed(d, 1) || fall.Passed(d, -1) {
		t.Error("right")
	}
	d.Tests[0].Limit = 900
	if !fall.Passed(d, 0) {
		t.Error("passed")
	}
	d.Tests[0] = api.Test{Upto: 1, Limit: 600}
	if !fall.Passed(d, 0) {
		t.Error("upto")
	}
	d.Collateral, d.Tests[0] = api.MaxMoney, api.Test{Upto: 40, Limit: 2000}
	d.Tranches = slices.Repeat([]api.Tranche{{Balance: api.MaxMoney}}, 40)
	if !fall.Right(d) || fall.Passed(d, 0) {
		t.Error("great sums")
	}
	d.Tests[0].Upto = 2
	if !fall.Passed(d, 0) {
		t.Error("exactly")
	}
	for i, spoil := range spoils() {
		d := example()
		d.Tests[0].Limit = 2000
		spoil(&d)
		if fall.Right(d) || fall.Passed(d, 0) {
			t.Error(i)
		}
	}
}

func TestP23_2Run(t *testing.T) {
	d, taken, e := fall.Run(example(), 100)
	if e != api.OK || !slices.Equal(taken, []int{30, 20, 5, 45, 0}) || d.Reserve != 15 || d.Trapped != 45 || d.Equity != 0 || d.Tranches[0].Due != 0 {
		t.Error(d, taken, e)
	}
	d, taken, _ = fall.Run(example(), 35)
	if !slices.Equal(taken, []int{30, 15, 0, 0, 0}) || d.Tranches[1].Due != 5 || d.Reserve != 0 {
		t.Error(d, taken)
	}
	x := example()
	x.Tranches[1].Balance = 200
	d, taken, _ = fall.Run(x, 60)
	if !slices.Equal(taken, []int{30, 20, 5, 0, 5}) || d.Equity != 5 {
		t.Error(d, taken)
	}
	x = api.Deal{Trapped: 7, Reserve: 50, Tranches: []api.Tranche{{Balance: 4}}, Steps: []api.Step{{Kind: api.StDown}, {Kind: api.StFill, Amount: 20}}}
	d, taken, _ = fall.Run(x, 3)
	if !slices.Equal(taken, []int{4, 0}) || d.Trapped != 6 || d.Reserve != 50 || d.Tranches[0].Balance != 0 {
		t.Error(d, taken)
	}
	for i, spoil := range spoils() {
		x := example()
		spoil(&x)
		if d, taken, e := fall.Run(x, 5); e != api.ErrArg || len(taken) != 0 || !same(d, api.Deal{}) {
			t.Error(i)
		}
	}
	for _, n := range []int{-1, api.MaxMoney + 1} {
		if _, _, e := fall.Run(example(), n); e != api.ErrArg {
			t.Error(n)
		}
	}
	x = api.Deal{Trapped: 1}
	if d, taken, e := fall.Run(x, api.MaxMoney); e != api.ErrRange || len(taken) != 0 || d.Trapped != 0 {
		t.Error("money and trapped")
	}
	x = api.Deal{Equity: api.MaxMoney, Steps: []api.Step{{Kind: api.StRest}}}
	if _, _, e := fall.Run(x, 1); e != api.ErrRange {
		t.Error("equity")
	}
	if _, _, e := fall.Run(x, 0); e != api.OK {
		t.Error("equity")
	}
}

func TestP23_3Pure(t *testing.T) {
	x := example()
	d, _, _ := fall.Run(x, 100)
	d.Tests[0].Limit, d.Steps[0].N = 7, 1
	if !same(x, example()) {
		t.Error("changed")
	}
}

func random(r *rand.Rand) api.Deal {
	d := api.Deal{Collateral: r.Intn(100), Reserve: r.Intn(20), Trapped: r.Intn(20), Equity: r.Intn(20)}
	for range 1 + r.Intn(3) {
		d.Tranches = append(d.Tranches, api.Tranche{Balance: r.Intn(50), Due: r.Intn(20)})
	}
	d.Tests = []api.Test{{Upto: 1 + r.Intn(len(d.Tranches)), Limit: r.Intn(1500)}}
	for range r.Intn(6) {
		switch k := r.Intn(api.StKinds); k {
		case api.StPay, api.StDown:
			d.Steps = append(d.Steps, api.Step{Kind: k, N: r.Intn(len(d.Tranches))})
		case api.StFill:
			d.Steps = append(d.Steps, api.Step{Kind: k, Amount: r.Intn(30)})
		default:
			d.Steps = append(d.Steps, api.Step{Kind: k})
		}
	}
	return d
}

func total(d api.Deal) int {
	n := d.Reserve + d.Trapped + d.Equity
	for _, t := range d.Tranches {
		n -= t.Balance + t.Due
	}
	return n
}

func TestP23_4Money(t *testing.T) {
	r := rand.New(rand.NewSource(1))
	for range 1000 {
		x := random(r)
		n := r.Intn(100)
		d, _, e := fall.Run(x, n)
		if e != api.OK || total(d) != total(x)+n {
			t.Fatal(x, d)
		}
	}
}

func TestP23_5More(t *testing.T) {
	r := rand.New(rand.NewSource(2))
	for range 1000 {
		x := random(r)
		x.Tests = nil
		x.Steps = slices.DeleteFunc(x.Steps, func(s api.Step) bool { return s.Kind == api.StTrap })
		a, _, _ := fall.Run(x, 20)
		b, _, _ := fall.Run(x, 27)
		for i := range x.Tranches {
			if b.Tranches[i].Balance > a.Tranches[i].Balance || b.Tranches[i].Due > a.Tranches[i].Due {
				t.Fatal(x)
			}
		}
		x.Steps = slices.DeleteFunc(x.Steps, func(s api.Step) bool { return s.Kind != api.StPay && s.Kind != api.StDown })
		x.Reserve = 0
		whole, _, _ := fall.Run(x, 30)
		part, _, _ := fall.Run(x, 13)
		part, _, _ = fall.Run(part, 17)
		if !same(whole, part) {
			t.Fatal(whole, part)
		}
	}
}

func TestP23_6Steps(t *testing.T) {
	r := rand.New(rand.NewSource(3))
	for range 1000 {
		x := random(r)
		n := r.Intn(60)
		_, taken, _ := fall.Run(x, n)
		for i, s := range x.Steps {
			y := x
			y.Steps = x.Steps[:i+1]
			d, _, _ := fall.Run(y, n)
			if s.Kind != api.StPay || d.Tranches[s.N].Due == 0 {
				continue
			}
			for _, k := range taken[i+1:] {
				if k != 0 {
					t.Fatal(x, taken)
				}
			}
			if d.Reserve != 0 {
				t.Fatal("reserve")
			}
		}
	}
	x := example()
	x.Steps = []api.Step{{Kind: api.StTrap}, {Kind: api.StPay}, {Kind: api.StDown}, {Kind: api.StRest}}
	if _, taken, _ := fall.Run(x, 50); !slices.Equal(taken, []int{50, 10, 0, 0}) {
		t.Error(taken)
	}
}

func TestP23_2Limits(t *testing.T) {
	d := api.Deal{Collateral: api.MaxMoney, Reserve: api.MaxMoney, Trapped: 1, Tranches: slices.Repeat([]api.Tranche{{Balance: api.MaxMoney, Due: api.MaxMoney}}, 40), Tests: slices.Repeat([]api.Test{{Upto: 40, Limit: 0}}, 40), Steps: slices.Repeat([]api.Step{{Kind: api.StTrap, N: 39}}, 40)}
	x, taken, e := fall.Run(d, api.MaxMoney-1)
	if e != api.OK || x.Trapped != api.MaxMoney || taken[0] != api.MaxMoney || taken[1] != 0 {
		t.Error("limits", e)
	}
	if _, _, e := fall.Run(d, api.MaxMoney); e != api.ErrRange {
		t.Error("one more", e)
	}
}
