package agree_test

import (
	"math/rand"
	"slices"
	"testing"

	"consol/agree"
	"consol/api"
	"consol/ledger"
	"consol/seal"
)

func e(id, amount int) api.Entry { return api.Entry{Id: id, From: 1, To: 2, Amount: amount} }

func a() []api.Entry { return []api.Entry{e(3, 3), e(1, 1), e(2, 2)} }

func b() []api.Entry { return []api.Entry{e(1, 1), e(4, 4), e(2, 9)} }

func TestP45_1Compare(t *testing.T) {
	for i, c := range []struct {
		flight        []api.Mail
		first, second []api.Entry
	}{
		{nil, nil, []api.Entry{e(2, 2), e(2, 9), e(3, 3), e(4, 4)}},
		{[]api.Mail{{From: 0, To: 1, Entry: 0}}, []api.Entry{e(3, 3)}, []api.Entry{e(2, 2), e(2, 9), e(4, 4)}},
		{[]api.Mail{{From: 0, To: 1, Entry: 1}, {From: 1, To: 0, Entry: 1}, {From: 1, To: 0, Seq: 5, Entry: 1}, {From: 0, To: 1, Entry: 2}}, []api.Entry{e(4, 4)}, []api.Entry{e(2, 2), e(2, 9), e(3, 3)}},
		{[]api.Mail{{From: 1, To: 0, Entry: 1}, {From: 0, To: 1, Entry: 0}}, []api.Entry{e(3, 3), e(4, 4)}, []api.Entry{e(2, 2), e(2, 9)}},
	} {
		first, second, no := agree.Compare(a(), b(), c.flight)
		if no != api.OK || !slices.Equal(first, c.first) || !slices.Equal(second, c.second) {
			t.Error(i, first, second, no)
		}
	}
	for i, m := range []api.Mail{{From: 0, To: 0}, {From: 1, To: 1}, {From: 2, To: 0}, {From: 0, To: -1}, {From: 0, To: 1, Seq: -1}, {From: 0, To: 1, Entry: 3}, {From: 0, To: 1, Entry: -1}} {
		if first, second, no := agree.Compare(a(), b(), []api.Mail{m}); len(first) != 0 || len(second) != 0 || no != api.ErrArg {
			t.Error(i, no)
		}
	}
	bad := []api.Entry{e(1, 0)}
	if _, _, no := agree.Compare(bad, b(), nil); no != api.ErrArg {
		t.Error("a")
	}
	if _, _, no := agree.Compare(a(), bad, nil); no != api.ErrArg {
		t.Error("b")
	}
}

func TestP45_2Convict(t *testing.T) {
	r := seal.New()
	one, two := r.Sign(5, ledger.Text(e(1, 1))), r.Sign(5, ledger.Text(e(1, 2)))
	three, four, five := r.Sign(6, ledger.Text(e(1, 2))), r.Sign(5, ledger.Text(e(2, 2))), r.Sign(5, "text")
	forged := two
	forged.Mark = 0
	for i, c := range []struct {
		s, t api.Signed
		want api.Errno
	}{{one, two, api.OK}, {two, one, api.OK}, {one, one, api.ErrTwice}, {one, three, api.ErrKey}, {one, four, api.ErrNone}, {one, five, api.ErrForm}, {five, one, api.ErrForm}, {five, five, api.ErrForm}, {one, forged, api.ErrSeal}, {forged, one, api.ErrSeal}, {forged, three, api.ErrSeal}, {five, three, api.ErrKey}} {
		if no := agree.Convict(r, c.s, c.t); no != c.want {
			t.Error(i, no)
		}
	}
}

func TestP45_3Pure(t *testing.T) {
	x := a()
	first, _, _ := agree.Compare(x, nil, []api.Mail{{From: 0, To: 1, Entry: 0}})
	first[0].Amount = 99
	if !slices.Equal(x, a()) {
		t.Error("shared")
	}
	r := seal.New()
	agree.Convict(r, api.Signed{}, api.Signed{})
	if len(r.All()) != 0 {
		t.Error("ring")
	}
}

func random(r *rand.Rand) (x, y []api.Entry, flight []api.Mail) {
	for id := range 6 {
		k := r.Intn(5)
		if k != 1 {
			x = append(x, e(id, 1))
		}
		if k != 2 {
			y = append(y, e(id, 1+k/4))
		}
	}
	for range r.Intn(4) {
		if r.Intn(2) == 0 && len(x) > 0 {
			flight = append(flight, api.Mail{From: 0, To: 1, Entry: r.Intn(len(x))})
		} else if len(y) > 0 {
			flight = append(flight, api.Mail{From: 1, To: 0, Entry: r.Intn(len(y))})
		}
	}
	return x, y, flight
}

func TestP45_4Explained(t *testing.T) {
	r := rand.New(rand.NewSource(1))
	for range 500 {
		x, y, flight := random(r)
		first, second, _ := agree.Compare(x, y, flight)
		for _, z := range first {
			if slices.Contains(x, z) {
				y, _ = ledger.Post(y, z)
			} else {
				x, _ = ledger.Post(x, z)
			}
		}
		none, rest, _ := agree.Compare(x, y, nil)
		if len(none) != 0 || !slices.Equal(rest, second) {
			t.Fatal(rest, second)
		}
		if len(second) == 0 {
			for account := range 3 {
				if ledger.Balance(x, account) != ledger.Balance(y, account) {
					t.Fatal("balance")
				}
			}
		}
	}
}

func TestP45_5Signers(t *testing.T) {
	r := seal.New()
	var signs []api.Signed
	for _, x := range a() {
		signs = append(signs, r.Sign(3, ledger.Text(x)))
	}
	for _, s := range signs {
		for _, u := range signs {
			if agree.Convict(r, s, u) == api.OK {
				t.Error("an honest signer is convicted")
			}
		}
	}
	for _, x := range b() {
		signs = append(signs, r.Sign(3, ledger.Text(x)))
	}
	if !slices.ContainsFunc(signs, func(s api.Signed) bool { return agree.Convict(r, signs[2], s) == api.OK }) {
		t.Error("not convicted")
	}
}

func TestP45_6Exchanged(t *testing.T) {
	r := rand.New(rand.NewSource(2))
	sorted := func(l []api.Entry) []api.Entry {
		slices.SortFunc(l, func(x, y api.Entry) int { return (x.Id-y.Id)*1000 + x.Amount - y.Amount })
		return l
	}
	for range 500 {
		x, y, flight := random(r)
		first, second, _ := agree.Compare(x, y, flight)
		var turned []api.Mail
		for _, m := range flight {
			m.From, m.To = m.To, m.From
			turned = append(turned, m)
		}
		f, s, _ := agree.Compare(y, x, turned)
		if !slices.Equal(first, f) || !slices.Equal(sorted(second), sorted(s)) {
			t.Fatal(x, y)
		}
		if len(x) > 0 {
			_, fewer, _ := agree.Compare(x, y, append(flight, api.Mail{From: 0, To: 1, Entry: r.Intn(len(x))}))
			if len(fewer) > len(second) {
				t.Fatal("more messages")
			}
		}
	}
}
