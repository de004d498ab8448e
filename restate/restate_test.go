package restate_test

import (
	"math/rand"
	"slices"
	"testing"

	"consol/api"
	"consol/restate"
)

func example() []api.Derived {
	return []api.Derived{{Facts: []int{7}}, {Facts: []int{8}}, {From: []int{0, 1}}, {From: []int{1}}}
}

func TestP29_1Changed(t *testing.T) {
	for fact, want := range map[int][]int{7: {0, 2}, 8: {1, 2, 3}, 9: nil, -1: nil} {
		if got := restate.Changed(example(), []int{fact}); !slices.Equal(got, want) {
			t.Error(fact, got)
		}
	}
	if got := restate.Changed(example(), []int{8, 7, 8, -5}); !slices.Equal(got, []int{0, 1, 2, 3}) {
		t.Error(got)
	}
	if !restate.Right(example()) || !restate.Right(nil) || !restate.Right(make([]api.Derived, 10000)) {
		t.Error("right")
	}
	for i, l := range [][]api.Derived{{{From: []int{0}}}, {{}, {From: []int{-1}}}, {{}, {}, {From: []int{1, 0}}}, {{}, {From: []int{0, 0}}}, {{Facts: []int{-1}}}, {{Facts: []int{2, 2}}}, {{Facts: []int{2, 1}}}, make([]api.Derived, 10001)} {
		if restate.Right(l) || len(restate.Changed(l, []int{2})) != 0 {
			t.Error(i)
		}
	}
}

func pay(seat, paid int) api.Payment { return api.Payment{Seat: seat, Paid: paid} }

func TestP29_2Back(t *testing.T) {
	l, due := []api.Payment{pay(4, 10), pay(4, 5), pay(6, 2)}, []int{7, 5, 9}
	owes, owed, e := restate.Back(l, due, make([]bool, 3))
	if !slices.Equal(owes, []api.Share{{Seat: 4, Amount: 3}}) || !slices.Equal(owed, []api.Share{{Seat: 6, Amount: 7}}) || e != api.OK {
		t.Error(owes, owed, e)
	}
	owes, owed, _ = restate.Back(l, due, []bool{true, false, true})
	if len(owes) != 0 || !slices.Equal(owed, []api.Share{{Seat: 6, Amount: 7}}) {
		t.Error(owes, owed)
	}
	owes, owed, _ = restate.Back([]api.Payment{pay(9, 5), pay(2, 5), pay(9, 5), pay(9, 1)}, []int{1, 1, 2, 3}, make([]bool, 4))
	if !slices.Equal(owes, []api.Share{{Seat: 2, Amount: 4}, {Seat: 9, Amount: 7}}) || !slices.Equal(owed, []api.Share{{Seat: 9, Amount: 2}}) {
		t.Error(owes, owed)
	}
	for i, c := range []struct {
		l    []api.Payment
		due  []int
		good []bool
	}{{l, due[:2], make([]bool, 3)}, {l, due, make([]bool, 2)}, {[]api.Payment{pay(-1, 1)}, []int{1}, []bool{true}}, {[]api.Payment{pay(1, -1)}, []int{1}, []bool{true}}, {[]api.Payment{pay(1, api.MaxMoney+1)}, []int{1}, []bool{true}}, {[]api.Payment{pay(1, 1)}, []int{-1}, []bool{true}}, {[]api.Payment{pay(1, 1)}, []int{api.MaxMoney + 1}, []bool{true}}} {
		if a, b, e := restate.Back(c.l, c.due, c.good); len(a) != 0 || len(b) != 0 || e != api.ErrArg {
			t.Error(i)
		}
	}
	much := slices.Repeat([]api.Payment{pay(1, api.MaxMoney)}, 20000)
	if _, _, e := restate.Back(much, make([]int, 20000), make([]bool, 20000)); e != api.ErrFull {
		t.Error("owes")
	}
	if _, _, e := restate.Back(make([]api.Payment, 2), []int{api.MaxMoney, 1}, make([]bool, 2)); e != api.ErrFull {
		t.Error("owed")
	}
	if _, owed, e := restate.Back(make([]api.Payment, 2), []int{api.MaxMoney, 0}, make([]bool, 2)); e != api.OK || owed[0].Amount != api.MaxMoney {
		t.Error("not too much")
	}
}

func TestP29_3Pure(t *testing.T) {
	l := example()
	restate.Changed(l, []int{7})
	if !slices.Equal(l[2].From, []int{0, 1}) || !slices.Equal(l[0].Facts, []int{7}) {
		t.Error("changed")
	}
}

func random(r *rand.Rand) []api.Derived {
	var l []api.Derived
	for i := range 1 + r.Intn(8) {
		var d api.Derived
		for k := range i {
			if r.Intn(4) == 0 {
				d.From = append(d.From, k)
			}
		}
		for f := range 4 {
			if r.Intn(5) == 0 {
				d.Facts = append(d.Facts, f)
			}
		}
		l = append(l, d)
	}
	return l
}

func TestP29_4Least(t *testing.T) {
	r := rand.New(rand.NewSource(1))
	for range 500 {
		l := random(r)
		fact := r.Intn(4)
		changed := restate.Changed(l, []int{fact})
		values := func(x int) []int {
			out := make([]int, len(l))
			for i, d := range l {
				for _, f := range d.Facts {
					out[i] = out[i]*7 + 1
					if f == fact {
						out[i] += x
					}
				}
				for _, k := range d.From {
					out[i] = out[i]*3 + out[k]
				}
			}
			return out
		}
		a, b := values(0), values(1<<20)
		for i := range l {
			if (a[i] != b[i]) != slices.Contains(changed, i) {
				t.Fatal(l, changed)
			}
		}
	}
}

func TestP29_5Sums(t *testing.T) {
	r := rand.New(rand.NewSource(2))
	for range 500 {
		var l []api.Payment
		var due []int
		var good []bool
		want := map[int]int{}
		for range r.Intn(9) {
			p := pay(r.Intn(3), r.Intn(20))
			l, due, good = append(l, p), append(due, r.Intn(20)), append(good, r.Intn(2) == 0)
			k := len(due) - 1
			want[p.Seat] += due[k]
			if good[k] && p.Paid > due[k] {
				want[p.Seat] += p.Paid - due[k]
			}
			want[p.Seat] -= p.Paid
		}
		owes, owed, _ := restate.Back(l, due, good)
		for _, s := range owes {
			want[s.Seat] += s.Amount
		}
		for _, s := range owed {
			want[s.Seat] -= s.Amount
		}
		for seat, n := range want {
			if n != 0 {
				t.Fatal(seat, n)
			}
		}
	}
}

func TestP29_6Good(t *testing.T) {
	r := rand.New(rand.NewSource(3))
	for range 500 {
		l := []api.Payment{pay(0, r.Intn(9)), pay(r.Intn(2), r.Intn(9)), pay(1, r.Intn(9))}
		due := []int{r.Intn(9), r.Intn(9), r.Intn(9)}
		good := []bool{r.Intn(2) == 0, false, false}
		a, b, _ := restate.Back(l, due, good)
		good[1+r.Intn(2)] = true
		c, d, _ := restate.Back(l, due, good)
		if !slices.Equal(b, d) {
			t.Fatal("owed")
		}
		for _, s := range c {
			if !slices.ContainsFunc(a, func(x api.Share) bool { return x.Seat == s.Seat && x.Amount >= s.Amount }) {
				t.Fatal("owes")
			}
		}
	}
}
