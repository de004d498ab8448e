package world_test

import (
	"math/rand"
	"slices"
	"testing"

	"consol/agree"
	"consol/api"
	"consol/ledger"
	"consol/office"
	"consol/post"
	"consol/state"
	"consol/world"
)

const text = "issue a of x ; face 1000 ; from 1900 - 1 - 1 to 1900 - 9 - 1 every 1 months ; count thirty ; adjust none ; record 2 ; rank 0 ; coupon 120 mille ; cap 1000 ; majority 667 ; fast 250 ;"

func setup() api.Setup {
	return api.Setup{Calendar: api.Calendar{Days: []int{199999}}, Issuers: []string{"w", "x"}, Cash: []int{5, 100000}, Seats: []api.Seat{{Parent: -1, Owner: -1}, {Parent: -1, Owner: -1}}, Texts: []string{text}, Units: [][]int{{10, 5}}}
}

func begin(t *testing.T) *world.World {
	t.Helper()
	w, e := world.New(setup())
	if e != api.OK {
		t.Fatal(e)
	}
	return w
}

func tell(in api.Input) api.Act { return api.Act{Kind: api.AcTell, Input: in} }

func days(n int) api.Act { return tell(api.Input{Kind: api.InDay, N: n}) }

func cash(n int) api.Act { return tell(api.Input{Kind: api.InCash, A: 1, N: n}) }

func act(kind, a, n, b int) api.Act { return api.Act{Kind: kind, A: a, N: n, B: b} }

// do plays acts, each of which has to have an error.
func do(t *testing.T, w *world.World, want api.Errno, acts ...api.Act) {
	t.Helper()
	for _, a := range acts {
		if e := w.Do(a); e != want {
			t.Fatal(a, e)
		}
	}
}

func entry(id, day, to, amount int) api.Entry {
	return api.Entry{Id: id, Day: day, From: 1, To: to, Amount: amount}
}

func TestP50_1New(t *testing.T) {
	w := begin(t)
	st, ok := w.State()
	want, _ := office.Begin(setup())
	if !ok || !state.Same(st, want) || len(w.Inputs()) != 0 || len(w.Signed()) != 0 || len(w.Ring().All()) != 0 || w.Purse() != (api.Purse{}) || w.Back() != 0 {
		t.Error("new")
	}
	for n := range 3 {
		if len(w.Ledger(n)) != 0 || len(w.Way(n).Sent) != 0 {
			t.Error(n)
		}
	}
	bad := setup()
	bad.Cash = nil
	if w, e := world.New(bad); w != nil || e != api.ErrArg {
		t.Error(e)
	}
}

func TestP50_2Tell(t *testing.T) {
	w := begin(t)
	do(t, w, api.ErrArg, days(0), api.Act{Kind: -1}, api.Act{Kind: api.AcKinds})
	do(t, w, api.OK, days(31))
	do(t, w, api.ErrNone, tell(api.Input{Kind: api.InCash, A: 2, N: 1}))
	if !slices.Equal(w.Inputs(), []string{"0;31;", "1;2;1;"}) {
		t.Error(w.Inputs())
	}
	want := []api.Entry{entry(0, 31, 1000, 100), entry(1, 31, 1001, 50)}
	for n := range 3 {
		if !slices.Equal(w.Ledger(n), want) {
			t.Error(n, w.Ledger(n))
		}
	}
	keys := []int{}
	for _, s := range w.Signed() {
		keys = append(keys, s.Key)
		if !w.Ring().Valid(s) {
			t.Error(s)
		}
	}
	if !slices.Equal(keys, []int{0, 0, 1, 1, 2, 2}) || w.Signed()[2].Text != ledger.Text(want[0]) || w.Purse() != (api.Purse{}) {
		t.Error(keys)
	}
	for n := range 2 {
		if x := w.Way(n); !slices.Equal(x.Sent, want) || x.Next != 2 || len(x.Early) != 0 {
			t.Error(x)
		}
	}
}

func TestP50_2Lie(t *testing.T) {
	w := begin(t)
	do(t, w, api.ErrNone, act(api.AcLie, 0, 0, 5))
	do(t, w, api.ErrArg, act(api.AcLie, 3, 0, 5), act(api.AcLie, -1, 0, 5))
	do(t, w, api.OK, days(31))
	do(t, w, api.ErrArg, act(api.AcLie, 1, 0, 100), act(api.AcLie, 1, 0, 0), act(api.AcLie, 1, 0, api.MaxMoney+1))
	do(t, w, api.ErrNone, act(api.AcLie, 1, 2, 7), act(api.AcLie, 1, -1, 7))
	do(t, w, api.OK, act(api.AcLie, 1, 0, 7))
	if w.Ledger(1)[0].Amount != 7 || w.Ledger(0)[0].Amount != 100 || w.Ledger(2)[0].Amount != 100 {
		t.Error(w.Ledger(1))
	}
	if s := w.Signed()[6]; s.Key != 1 || s.Text != ledger.Text(entry(0, 31, 1000, 7)) || len(w.Signed()) != 7 {
		t.Error(s)
	}
	do(t, w, api.ErrState, act(api.AcLie, 1, 0, 8), act(api.AcLie, 0, 0, 100))
	do(t, w, api.ErrNone, act(api.AcLie, 0, 2, 5))
}

func TestP50_2Lose(t *testing.T) {
	w := begin(t)
	do(t, w, api.ErrArg, act(api.AcLose, 2, 0, 0), act(api.AcLose, -1, 0, 0), act(api.AcLose, 0, -1, 0), act(api.AcLose, 0, 10000, 0))
	do(t, w, api.OK, act(api.AcLose, 0, 0, 0), act(api.AcLose, 1, 0, 0), act(api.AcLose, 0, 9999, 0))
	do(t, w, api.ErrTwice, act(api.AcLose, 0, 0, 0))
	do(t, w, api.OK, days(31))
	if x := w.Way(0); x.Next != 0 || !slices.Equal(x.Early, []int{1}) || len(w.Ledger(1)) != 0 || len(w.Ledger(0)) != 2 {
		t.Error(x)
	}
	do(t, w, api.ErrLate, act(api.AcLose, 0, 1, 0))
	do(t, w, api.OK, cash(1))
	if x := w.Way(1); len(w.Ledger(1)) != 2 || x.Next != 0 || !slices.Equal(x.Early, []int{1}) || w.Purse().Trust != 150 {
		t.Error(x, w.Purse())
	}
	do(t, w, api.ErrLate, act(api.AcLose, 0, 0, 0))
	do(t, w, api.OK, cash(1))
	if len(w.Ledger(2)) != 2 || w.Purse().Trust != 0 {
		t.Error(w.Ledger(2))
	}
}

func TestP50_2Crash(t *testing.T) {
	w := begin(t)
	do(t, w, api.ErrState, act(api.AcStart, 0, 0, 0))
	do(t, w, api.ErrArg, act(api.AcCrash, 0, 0, 0))
	do(t, w, api.OK, days(31), act(api.AcCrash, 0, 1, 0))
	do(t, w, api.ErrDown, cash(5), cash(5), act(api.AcCrash, 0, 1, 0), days(0))
	if _, ok := w.State(); ok || len(w.Inputs()) != 0 || len(w.Ledger(0)) != 2 {
		t.Error("down")
	}
	do(t, w, api.OK, act(api.AcStart, 0, 0, 0))
	if st, ok := w.State(); !ok || st.Day != 31 || st.Outside != 0 || !slices.Equal(w.Inputs(), []string{"0;31;"}) || len(w.Ledger(0)) != 2 {
		t.Error("started", w.Inputs())
	}
	do(t, w, api.OK, act(api.AcCrash, 0, 4, 0), cash(5))
	do(t, w, api.ErrDown, cash(6))
	do(t, w, api.OK, act(api.AcStart, 0, 0, 0), days(30))
	if st, _ := w.State(); st.Outside != 5 || st.Day != 61 {
		t.Error(st.Outside)
	}
}

func TestP50_2Break(t *testing.T) {
	w := begin(t)
	do(t, w, api.ErrArg, act(api.AcBreak, 1, 0, 0))
	do(t, w, api.OK, act(api.AcLose, 1, 0, 0), days(31))
	if w.Purse().Trust != 150 {
		t.Error(w.Purse())
	}
	do(t, w, api.OK, act(api.AcBreak, 0, 0, 0))
	do(t, w, api.ErrState, act(api.AcBreak, 0, 0, 0))
	if w.Purse() != (api.Purse{Gone: true}) || w.Back() != 150 {
		t.Error(w.Purse(), w.Back())
	}
	do(t, w, api.OK, days(30))
	// The agent's ledger has what came; nothing goes on from there but what was in flight.
	if len(w.Ledger(0)) != 4 || len(w.Ledger(1)) != 4 || len(w.Way(1).Sent) != 2 || len(w.Ledger(2)) != 2 || w.Purse() != (api.Purse{Gone: true}) {
		t.Error(w.Ledger(1), w.Way(1))
	}
}

func TestP50_3Numbers(t *testing.T) {
	w := begin(t)
	do(t, w, api.OK, days(31))
	for _, n := range []int{-1, 3} {
		if len(w.Ledger(n)) != 0 {
			t.Error(n)
		}
	}
	for _, n := range []int{-1, 2} {
		if x := w.Way(n); len(x.Sent) != 0 || x.Next != 0 || len(x.Early) != 0 {
			t.Error(n)
		}
	}
}

func TestP50_4Fresh(t *testing.T) {
	s := setup()
	w, _ := world.New(s)
	s.Cash[1], s.Units[0][0], s.Texts[0], s.Issuers[1], s.Seats[0].Owner, s.Calendar.Days[0] = 0, 0, "", "", 1, 31
	do(t, w, api.OK, act(api.AcLose, 0, 0, 0), days(31))
	st, _ := w.State()
	st.Cash[0], st.Lines[0].Units[0] = 77, 77
	w.Ledger(0)[0].Amount = 77
	w.Way(0).Sent[0].Amount, w.Way(0).Early[0] = 77, 77
	w.Inputs()[0] = "x"
	w.Signed()[0].Key = 9
	w.Ring().Sign(5, "new")
	again, _ := w.State()
	if again.Cash[0] != 5 || again.Lines[0].Units[0] != 10 || w.Ledger(0)[0].Amount != 100 || w.Way(0).Sent[0].Amount != 100 || w.Way(0).Early[0] != 1 || w.Inputs()[0] != "0;31;" || w.Signed()[0].Key != 0 || len(w.Ring().All()) != 2 {
		t.Error("shared")
	}
}

func random(r *rand.Rand) api.Act {
	switch r.Intn(9) {
	case 0:
		return act(api.AcLose, r.Intn(2), r.Intn(12), 0)
	case 1:
		return act(api.AcCrash, 0, 1+r.Intn(5), 0)
	case 2:
		return act(api.AcStart, 0, 0, 0)
	case 3:
		return tell(api.Input{Kind: api.InTrade, B: r.Intn(2), C: r.Intn(2), N: 1 + r.Intn(4)})
	case 4:
		return cash(r.Intn(100))
	}
	return days(1 + r.Intn(20))
}

func sum(l []api.Entry) int {
	n := 0
	for _, e := range l {
		n += e.Amount
	}
	return n
}

func TestP50_5Ledgers(t *testing.T) {
	r := rand.New(rand.NewSource(1))
	for range 60 {
		w := begin(t)
		for range 30 {
			if r.Intn(60) == 0 {
				w.Do(act(api.AcBreak, 0, 0, 0))
			}
			w.Do(random(r))
			a, b, c := w.Ledger(0), w.Ledger(1), w.Ledger(2)
			if st, ok := w.State(); ok {
				paid := 0
				for _, p := range st.Payments {
					paid += p.Paid
				}
				if paid != sum(a) {
					t.Fatal("paid")
				}
			}
			if !slices.Equal(a[:len(b)], b) || !slices.Equal(b[:len(c)], c) || !slices.Equal(a[len(b):], post.Flight(w.Way(0))) {
				t.Fatal("beginnings")
			}
			flight := post.Flight(w.Way(1))
			if !slices.Equal(b[len(c):len(c)+len(flight)], flight) || !w.Purse().Gone && len(c)+len(flight) != len(b) {
				t.Fatal("flight")
			}
			if !w.Purse().Gone && w.Purse().Trust != sum(flight) || w.Purse().Gone && w.Purse().Trust != 0 {
				t.Fatal("trust")
			}
		}
	}
}

func TestP50_6Crashes(t *testing.T) {
	acts := []api.Act{days(20), cash(7), days(15), tell(api.Input{Kind: api.InTrade, B: 0, C: 1, N: 4}), days(30), cash(9), days(40)}
	calm := begin(t)
	do(t, calm, api.OK, acts...)
	want, _ := calm.State()
	for at := range len(acts) {
		for n := 1; n <= 6; n++ {
			w := begin(t)
			for i, a := range acts {
				if i == at {
					do(t, w, api.OK, act(api.AcCrash, 0, n, 0))
				}
				if w.Do(a) != api.ErrDown {
					continue
				}
				do(t, w, api.OK, act(api.AcStart, 0, 0, 0))
				if len(w.Inputs()) <= i {
					do(t, w, api.OK, a)
				}
			}
			st, ok := w.State()
			if !ok {
				t.Fatal("down")
			}
			if !state.Same(st, want) || !slices.Equal(w.Inputs(), calm.Inputs()) || !slices.Equal(w.Ledger(0), calm.Ledger(0)) {
				t.Fatal(at, n)
			}
		}
	}
}

func TestP50_7Later(t *testing.T) {
	r := rand.New(rand.NewSource(2))
	for range 40 {
		w := begin(t)
		for range 25 {
			w.Do(random(r))
		}
		w.Do(act(api.AcStart, 0, 0, 0))
		for range 30 {
			if w.Do(cash(0)) == api.ErrDown {
				w.Do(act(api.AcStart, 0, 0, 0))
			}
		}
		if !slices.Equal(w.Ledger(0), w.Ledger(1)) || !slices.Equal(w.Ledger(1), w.Ledger(2)) || w.Purse().Trust != 0 {
			t.Fatal("not equal")
		}
	}
}

func TestP50_8Liars(t *testing.T) {
	for liar := range 3 {
		w := begin(t)
		do(t, w, api.OK, days(31), act(api.AcLie, liar, 1, 3), days(60))
		convicted := map[int]bool{}
		for _, x := range w.Signed() {
			for _, y := range w.Signed() {
				if agree.Convict(w.Ring(), x, y) == api.OK {
					convicted[x.Key] = true
				}
			}
		}
		if len(convicted) != 1 || !convicted[liar] {
			t.Error(liar, convicted)
		}
		if _, odds, _ := agree.Compare(w.Ledger(0), w.Ledger(2), nil); (len(odds) > 0) != (liar != 1) {
			t.Error(odds)
		}
	}
}

func TestP50_9Money(t *testing.T) {
	r := rand.New(rand.NewSource(3))
	for range 40 {
		w := begin(t)
		for range 40 {
			w.Do(random(r))
			if r.Intn(10) == 0 {
				w.Do(act(api.AcLie, r.Intn(3), 0, r.Intn(50)))
				w.Do(act(api.AcBreak, 0, 0, 0))
			}
			if st, ok := w.State(); ok && state.Money(st) != 100005+st.Outside {
				t.Fatal(state.Money(st))
			}
		}
	}
}

func TestP50_2Parts(t *testing.T) {
	s := setup()
	s.Cash[1] = 60
	w, _ := world.New(s)
	do(t, w, api.OK, days(31), cash(70), days(1), cash(70), days(1))
	want := []api.Entry{entry(0, 31, 1000, 40), entry(1, 31, 1001, 20), entry(2, 32, 1000, 47), entry(3, 32, 1001, 23), entry(4, 33, 1000, 13), entry(5, 33, 1001, 7)}
	if !slices.Equal(w.Ledger(0), want) || !slices.Equal(w.Ledger(2), want) {
		t.Error(w.Ledger(0))
	}
}
