package basket_test

import (
	"math/rand"
	"slices"
	"strconv"
	"testing"

	"consol/api"
	"consol/basket"
	"consol/fact"
)

func example() api.Basket { return api.Basket{Start: 100, Share: 500, Cap: 1000, Name: "income"} }

func report(period, value, day int) api.Fact {
	return api.Fact{Issuer: 3, Name: "income", Period: period, Value: value, Day: day}
}

func facts() []api.Fact { return []api.Fact{report(5, 60, 10), report(5, 40, 20)} }

func TestP26_1Size(t *testing.T) {
	for day, want := range map[int]int{9: 100, 10: 130, 19: 130, 20: 120, 200000: 120} {
		if n, e := basket.Size(example(), facts(), 3, day); n != want || e != api.OK {
			t.Error(day, n, e)
		}
	}
	b := example()
	b.Cap = 110
	if n, _ := basket.Size(b, facts(), 3, 10); n != 110 {
		t.Error("cap", n)
	}
	b = api.Basket{Share: 333, Cap: 1000, Name: "income"}
	if n, _ := basket.Size(b, facts(), 3, 10); n != 19 {
		t.Error("rounded down", n)
	}
	var great []api.Fact
	for i := range 10000 {
		great = append(great, report(i, api.MaxMoney, 10000))
	}
	if n, e := basket.Size(api.Basket{Start: api.MaxMoney, Share: 1000, Cap: api.MaxMoney, Name: "income"}, great, 3, 10000); n != api.MaxMoney || e != api.OK {
		t.Error("great sums", n, e)
	}
	if n, _ := basket.Size(api.Basket{Share: 1, Cap: api.MaxMoney, Name: "income"}, great[:700], 3, 10000); n != 700000000000000 {
		t.Error("great sums", n)
	}
	for i, w := range []api.Basket{{Start: -1, Name: "a"}, {Cap: api.MaxMoney + 1, Name: "a"}, {Share: 1001, Name: "a"}, {Share: -1, Name: "a"}, {Name: "let"}, {}} {
		if n, e := basket.Size(w, nil, 3, 5); basket.Right(w) || n != 0 || e != api.ErrArg {
			t.Error(i)
		}
	}
	if !basket.Right(example()) {
		t.Error("right")
	}
	for i, c := range [][2]int{{-1, 5}, {60, 5}, {3, -1}, {3, 200001}} {
		if _, e := basket.Size(example(), nil, c[0], c[1]); e != api.ErrArg {
			t.Error(i)
		}
	}
	if _, e := basket.Size(example(), []api.Fact{{Issuer: -1}}, 3, 5); e != api.ErrArg {
		t.Error("facts")
	}
}

func wrongUses() []api.Use {
	return []api.Use{{Issue: -1, Amount: 1}, {Issue: 400, Amount: 1}, {Amount: 0}, {Amount: api.MaxMoney + 1}, {Amount: 1, Day: -1}, {Amount: 1, Day: 200001}}
}

func TestP26_2Room(t *testing.T) {
	uses := []api.Use{{Issue: 1, Amount: 70, Day: 5}, {Issue: 2, Amount: 60, Day: 10}}
	for day, want := range map[int]int{4: 100, 5: 30, 9: 30, 10: 0, 20: 0} {
		if n, e := basket.Room(example(), facts(), uses, 3, day); n != want || e != api.OK {
			t.Error(day, n, e)
		}
	}
	for i, w := range wrongUses() {
		if n, e := basket.Room(example(), facts(), []api.Use{w}, 3, 5); n != 0 || e != api.ErrArg {
			t.Error(i)
		}
	}
	if _, e := basket.Room(example(), facts(), []api.Use{uses[1], uses[0]}, 3, 5); e != api.ErrArg {
		t.Error("order")
	}
	if _, e := basket.Room(example(), facts(), slices.Repeat(uses[:1], 10001), 3, 5); e != api.ErrArg {
		t.Error("too many")
	}
	if _, e := basket.Room(example(), facts(), uses, 60, 5); e != api.ErrArg {
		t.Error("size")
	}
	if n, e := basket.Room(example(), facts(), slices.Repeat([]api.Use{{Amount: api.MaxMoney}}, 10000), 3, 5); n != 0 || e != api.OK {
		t.Error("great sums")
	}
}

func TestP26_3Take(t *testing.T) {
	uses := []api.Use{{Issue: 1, Amount: 70, Day: 5}}
	if l, e := basket.Take(example(), facts(), uses, 3, api.Use{Amount: 61, Day: 10}); len(l) != 0 || e != api.ErrFew {
		t.Error("few")
	}
	u := api.Use{Issue: 7, Amount: 60, Day: 10}
	if l, e := basket.Take(example(), facts(), uses, 3, u); e != api.OK || !slices.Equal(l, append(slices.Clone(uses), u)) {
		t.Error(l, e)
	}
	if _, e := basket.Take(example(), facts(), uses, 3, api.Use{Amount: 9999, Day: 4}); e != api.ErrEarly {
		t.Error("early")
	}
	for i, w := range wrongUses() {
		if _, e := basket.Take(example(), facts(), uses, 3, w); e != api.ErrArg {
			t.Error(i)
		}
	}
	full := slices.Repeat([]api.Use{{Amount: 1, Day: 1}}, 10000)
	rich := api.Basket{Start: 10001, Cap: 10001, Name: "a"}
	if _, e := basket.Take(rich, nil, full, 3, api.Use{Amount: 2, Day: 1}); e != api.ErrFew {
		t.Error("few comes first")
	}
	if _, e := basket.Take(rich, nil, full, 3, api.Use{Amount: 1, Day: 1}); e != api.ErrFull {
		t.Error("full")
	}
	if _, e := basket.Take(api.Basket{}, nil, nil, 3, u); e != api.ErrArg {
		t.Error("basket")
	}
	if _, e := basket.Take(example(), nil, nil, -1, u); e != api.ErrArg {
		t.Error("issuer")
	}
}

func TestP26_4Fresh(t *testing.T) {
	uses := append(make([]api.Use, 0, 9), api.Use{Amount: 1, Day: 5})
	a, _ := basket.Take(example(), nil, uses, 3, api.Use{Amount: 2, Day: 6})
	b, _ := basket.Take(example(), nil, uses, 3, api.Use{Amount: 3, Day: 6})
	a[0].Amount = 9
	if a[1].Amount != 2 || b[1].Amount != 3 || uses[0].Amount != 1 {
		t.Error("shared")
	}
}

func TestP26_5Never(t *testing.T) {
	r := rand.New(rand.NewSource(1))
	for range 200 {
		var uses []api.Use
		f := facts()
		for day := range 30 {
			u := api.Use{Issue: r.Intn(400), Amount: 1 + r.Intn(40), Day: day}
			sum := u.Amount
			for _, x := range uses {
				sum += x.Amount
			}
			size, _ := basket.Size(example(), f, 3, day)
			l, e := basket.Take(example(), f, uses, 3, u)
			if (e == api.OK) != (sum <= size) {
				t.Fatal(uses, u, e)
			}
			if e == api.OK {
				uses = l
			}
		}
	}
}

func TestP26_6Reports(t *testing.T) {
	f := append(facts(), report(8, 25, 30))
	before, _ := basket.Size(example(), facts(), 3, 30)
	after, _ := basket.Size(example(), f, 3, 30)
	if after < before || after != 132 {
		t.Error(after)
	}
	first := []api.Fact{report(5, 40, 10)}
	for day := range 40 {
		a, _ := basket.Size(example(), facts(), 3, day)
		b, _ := basket.Size(example(), first, 3, day)
		c, _ := basket.Size(example(), facts()[:1], 3, day)
		if day >= 20 && a != b || day < 20 && a != c {
			t.Error(day, a, b, c)
		}
	}
}

func TestP26_7Others(t *testing.T) {
	base, _ := basket.Room(example(), facts(), []api.Use{{Issue: 1, Amount: 70, Day: 5}}, 3, 10)
	split, _ := basket.Room(example(), facts(), []api.Use{{Issue: 9, Amount: 30, Day: 5}, {Issue: 2, Amount: 40, Day: 5}}, 3, 10)
	f, _ := fact.Add(facts()[:1], api.Fact{Issuer: 4, Name: "income", Period: 3, Value: 99, Day: 10})
	f, _ = fact.Add(f, api.Fact{Issuer: 3, Name: "debt" + strconv.Itoa(1), Period: 3, Value: 99, Day: 10})
	other, _ := basket.Room(example(), f, []api.Use{{Issue: 1, Amount: 70, Day: 5}}, 3, 10)
	if base != split || base != other {
		t.Error(base, split, other)
	}
}

func TestP26_1Limits(t *testing.T) {
	b := api.Basket{Start: 7, Cap: api.MaxMoney, Share: 1000, Name: "a"}
	if n, e := basket.Size(b, []api.Fact{{Name: "a", Value: 5}}, 0, 0); n != 12 || e != api.OK {
		t.Error(n, e)
	}
	u := api.Use{Issue: 399, Amount: api.MaxMoney, Day: 200000}
	rich := api.Basket{Start: api.MaxMoney, Cap: api.MaxMoney, Name: "a"}
	if l, e := basket.Take(rich, nil, nil, 59, u); e != api.OK || len(l) != 1 {
		t.Error(e)
	}
	if n, e := basket.Room(rich, nil, []api.Use{u}, 59, 199999); n != api.MaxMoney || e != api.OK {
		t.Error(n, e)
	}
}
