package ledger_test

import (
	"math/rand"
	"slices"
	"testing"

	"consol/api"
	"consol/ledger"
)

func entry(id, day, from, to, amount int) api.Entry {
	return api.Entry{Id: id, Day: day, From: from, To: to, Amount: amount}
}

func wrongs() []api.Entry {
	return []api.Entry{entry(-1, 1, 1, 2, 1), entry(api.MaxNumber+1, 1, 1, 2, 1), entry(1, -1, 1, 2, 1), entry(1, 200001, 1, 2, 1), entry(1, 1, -1, 2, 1), entry(1, 1, 100000, 2, 1), entry(1, 1, 1, -1, 1), entry(1, 1, 1, 100000, 1), entry(1, 1, 2, 2, 1), entry(1, 1, 1, 2, 0), entry(1, 1, 1, 2, api.MaxMoney+1)}
}

func many(n, amount int) []api.Entry {
	var l []api.Entry
	for i := range n {
		l = append(l, entry(i, 1, 1, 2, amount))
	}
	return l
}

func TestP42_1Right(t *testing.T) {
	for i, w := range wrongs() {
		if ledger.Right(w) || ledger.Valid([]api.Entry{w}) {
			t.Error(i)
		}
	}
	if !ledger.Right(entry(0, 0, 0, ledger.MaxAccount, 1)) || !ledger.Right(entry(api.MaxNumber, 200000, ledger.MaxAccount, 0, api.MaxMoney)) || !ledger.Valid(nil) {
		t.Error("right")
	}
	if ledger.Valid([]api.Entry{entry(1, 1, 1, 2, 1), entry(1, 2, 1, 2, 1)}) || ledger.Valid(many(10001, 1)) || !ledger.Valid(many(10000, 1)) || !ledger.Valid(many(4000, api.MaxMoney)) || ledger.Valid(many(4001, api.MaxMoney)) || ledger.Valid(many(10000, api.MaxMoney)) {
		t.Error("valid")
	}
}

func TestP42_2Post(t *testing.T) {
	l := []api.Entry{entry(1, 5, 2, 3, 10)}
	for _, c := range []struct {
		e    api.Entry
		want api.Errno
	}{{entry(1, 5, 2, 3, 10), api.ErrTwice}, {entry(1, 5, 2, 3, 11), api.ErrCheck}, {entry(2, 5, 3, 3, 1), api.ErrArg}} {
		if got, e := ledger.Post(l, c.e); len(got) != 0 || e != c.want {
			t.Error(c, e)
		}
	}
	if got, e := ledger.Post(l, entry(2, 1, 3, 2, 4)); e != api.OK || !slices.Equal(got, append(slices.Clone(l), entry(2, 1, 3, 2, 4))) {
		t.Error(got, e)
	}
	for i, w := range wrongs() {
		if _, e := ledger.Post(nil, w); e != api.ErrArg {
			t.Error(i)
		}
		if _, e := ledger.Post([]api.Entry{w}, entry(9, 1, 1, 2, 1)); e != api.ErrArg {
			t.Error(i)
		}
	}
	if _, e := ledger.Post(many(10000, 1), entry(10000, 1, 1, 2, 1)); e != api.ErrFull {
		t.Error("full")
	}
	if _, e := ledger.Post(many(10000, 1), entry(5, 1, 1, 2, 1)); e != api.ErrTwice {
		t.Error("twice comes first")
	}
	if _, e := ledger.Post(many(4000, api.MaxMoney), entry(5000, 1, 1, 2, 1)); e != api.ErrFull {
		t.Error("total")
	}
}

func TestP42_3Balance(t *testing.T) {
	l := []api.Entry{entry(1, 5, 2, 3, 10)}
	if ledger.Balance(l, 2) != -10 || ledger.Balance(l, 3) != 10 || ledger.Balance(l, 4) != 0 || ledger.Balance(l, -1) != 0 {
		t.Error("balance")
	}
	l = append(l, entry(2, 5, 9, 2, 3))
	if ledger.Balance(l, 2) != -7 || !slices.Equal(ledger.Accounts(l), []int{2, 3, 9}) {
		t.Error(ledger.Accounts(l))
	}
	if bad := append(l, wrongs()[0]); ledger.Balance(bad, 2) != 0 || len(ledger.Accounts(bad)) != 0 {
		t.Error("not valid")
	}
	if ledger.Balance(many(4000, api.MaxMoney), 1) != -ledger.MaxTotal {
		t.Error("great sums")
	}
}

func TestP42_4Text(t *testing.T) {
	if s := ledger.Text(entry(1, 5, 2, 3, 10)); s != "1;5;2;3;10;" {
		t.Error(s)
	}
	for i, w := range wrongs() {
		if ledger.Text(w) != "" {
			t.Error(i)
		}
	}
	for _, s := range []string{"", "1;5;2;3;10", "1;5;2;3;10;0;", "1;5;2;2;10;", "1;5;2;3;0;", "01;5;2;3;10;", "-1;5;2;3;10;", "1;5;2;3;", "1;5;2;3;10; "} {
		if x, e := ledger.Read(s); x != (api.Entry{}) || e != api.ErrForm {
			t.Error(s, e)
		}
	}
}

func TestP42_5Fresh(t *testing.T) {
	l := append(make([]api.Entry, 0, 5), entry(1, 5, 2, 3, 10))
	a, _ := ledger.Post(l, entry(2, 1, 1, 2, 1))
	b, _ := ledger.Post(l, entry(3, 1, 1, 2, 1))
	a[0].Amount = 99
	if a[1].Id != 2 || b[1].Id != 3 || l[0].Amount != 10 {
		t.Error("shared")
	}
}

func random(r *rand.Rand) []api.Entry {
	var l []api.Entry
	for i := range r.Intn(9) {
		from := r.Intn(5)
		l = append(l, entry(i, r.Intn(9), from, (from+1+r.Intn(4))%5, 1+r.Intn(100)))
	}
	return l
}

func TestP42_6Zero(t *testing.T) {
	r := rand.New(rand.NewSource(1))
	for range 300 {
		l := random(r)
		before := make([]int, 5)
		for k := range len(l) + 1 {
			sum := 0
			for _, a := range ledger.Accounts(l[:k]) {
				sum += ledger.Balance(l[:k], a)
			}
			if sum != 0 {
				t.Fatal(l)
			}
			for a := range 5 {
				now := ledger.Balance(l[:k], a)
				want := before[a]
				if k > 0 && l[k-1].To == a {
					want += l[k-1].Amount
				}
				if k > 0 && l[k-1].From == a {
					want -= l[k-1].Amount
				}
				if now != want {
					t.Fatal(l)
				}
				before[a] = now
			}
		}
	}
}

func TestP42_7Once(t *testing.T) {
	r := rand.New(rand.NewSource(2))
	for range 300 {
		l := random(r)
		var m []api.Entry
		for range 40 {
			if len(l) == 0 {
				break
			}
			if n, e := ledger.Post(m, l[r.Intn(len(l))]); e == api.OK {
				m = n
			}
		}
		for _, x := range l {
			if n, e := ledger.Post(m, x); e == api.OK {
				m = n
			}
		}
		for a := range 5 {
			if len(m) != len(l) || ledger.Balance(m, a) != ledger.Balance(l, a) {
				t.Fatal(l, m)
			}
		}
	}
}

func TestP42_8Read(t *testing.T) {
	for _, x := range append(random(rand.New(rand.NewSource(3))), entry(0, 0, 0, ledger.MaxAccount, 1), entry(api.MaxNumber, 200000, ledger.MaxAccount, 0, api.MaxMoney)) {
		if y, e := ledger.Read(ledger.Text(x)); x != y || e != api.OK {
			t.Error(x, y)
		}
	}
}

func TestP42_1Order(t *testing.T) {
	l := []api.Entry{entry(5, 1, 1, 2, 1), entry(3, 1, 1, 2, 1), entry(4, 1, 1, 2, 1)}
	if !ledger.Valid(l) || ledger.Valid(append(l, entry(3, 2, 1, 2, 1))) || l[0].Id != 5 {
		t.Error("Ids in any order")
	}
	if got, e := ledger.Post(many(3999, api.MaxMoney), entry(9999, 1, 1, 2, api.MaxMoney)); e != api.OK || len(got) != 4000 {
		t.Error("exactly MaxTotal", e)
	}
	if got, e := ledger.Post(many(9999, 1), entry(9999, 1, 1, 2, 1)); e != api.OK || len(got) != 10000 {
		t.Error("10000 entries", e)
	}
	if ledger.Balance([]api.Entry{entry(1, 1, 1, 2, 5), entry(1, 1, 1, 2, 5)}, 2) != 0 {
		t.Error("not valid")
	}
}
