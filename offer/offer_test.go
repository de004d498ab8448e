package offer_test

import (
	"math/rand"
	"slices"
	"testing"

	"consol/api"
	"consol/offer"
)

func example() api.Offer {
	return api.Offer{Early: 5, Late: 9, New: 1000, Less: 900, Least: 6, Most: 10}
}

func units() []int { return []int{8, 4, 6} }

func tender(seat, units, day int) api.Tender { return api.Tender{Seat: seat, Units: units, Day: day} }

func share2(l ...int) []api.Share {
	var out []api.Share
	for i := 0; i < len(l); i += 2 {
		out = append(out, api.Share{Seat: l[i], Amount: l[i+1]})
	}
	return out
}

func spoils() []func(o *api.Offer) {
	return []func(o *api.Offer){
		func(o *api.Offer) { o.Issue = -1 }, func(o *api.Offer) { o.To = 400 }, func(o *api.Offer) { o.Early = -1 }, func(o *api.Offer) { o.Early = 10 }, func(o *api.Offer) { o.Late = 200001 }, func(o *api.Offer) { o.New = 10001 }, func(o *api.Offer) { o.Less = -1 },
		func(o *api.Offer) { o.Least = -1 }, func(o *api.Offer) { o.Least = 11 }, func(o *api.Offer) { o.Most = api.MaxUnits + 1 },
	}
}

func TestP36_1Taken(t *testing.T) {
	for i, c := range []struct {
		tenders []api.Tender
		want    []int
	}{
		{[]api.Tender{tender(0, 5, 9)}, []int{0}}, {[]api.Tender{tender(0, 20, 3), tender(1, 1, 10)}, []int{8, 0}}, {[]api.Tender{tender(0, 8, 6), tender(1, 4, 5)}, []int{6, 4}}, {[]api.Tender{tender(0, 8, 5), tender(1, 4, 5), tender(2, 6, 9)}, []int{7, 3, 0}},
		{[]api.Tender{tender(0, 5, 9), tender(0, 5, 1)}, []int{5, 3}}, {[]api.Tender{tender(0, 4, 1), tender(1, 4, 1), tender(2, 4, 1)}, []int{4, 3, 3}}, {[]api.Tender{tender(2, 1, 1), tender(0, 6, 7), tender(1, 4, 7)}, []int{1, 5, 4}}, {[]api.Tender{tender(0, 6, 5)}, []int{6}}, {nil, nil},
	} {
		if got, e := offer.Taken(example(), c.tenders, units()); !slices.Equal(got, c.want) || e != api.OK {
			t.Error(i, got, e)
		}
	}
	zero := example()
	zero.Least, zero.Most = 0, 0
	if got, e := offer.Taken(zero, []api.Tender{tender(0, 3, 1), tender(1, 1, 8)}, units()); !slices.Equal(got, []int{0, 0}) || e != api.OK {
		t.Error("nothing at most", got)
	}
	if got, e := offer.Taken(zero, []api.Tender{tender(1, 1, 8)}, units()); !slices.Equal(got, []int{0}) || e != api.OK {
		t.Error("late ones alone", got)
	}
	for i, spoil := range spoils() {
		o := example()
		spoil(&o)
		if got, e := offer.Taken(o, nil, units()); len(got) != 0 || e != api.ErrArg {
			t.Error(i, e)
		}
	}
	for i, c := range []struct {
		tenders []api.Tender
		units   []int
	}{{nil, []int{-1}}, {nil, []int{api.MaxUnits, 1}}, {nil, make([]int, 20001)}, {[]api.Tender{tender(3, 1, 1)}, units()}, {[]api.Tender{tender(-1, 1, 1)}, units()}, {[]api.Tender{tender(0, 0, 1)}, units()}, {[]api.Tender{tender(0, api.MaxUnits+1, 1)}, units()}, {[]api.Tender{tender(0, 1, -1)}, units()}, {[]api.Tender{tender(0, 1, 200001)}, units()}, {slices.Repeat([]api.Tender{tender(0, 1, 1)}, 2001), units()}} {
		if _, e := offer.Taken(example(), c.tenders, c.units); e != api.ErrArg {
			t.Error(i, e)
		}
	}
	great := api.Offer{Most: 999999999}
	if got, _ := offer.Taken(great, []api.Tender{tender(0, api.MaxUnits, 0)}, []int{api.MaxUnits}); !slices.Equal(got, []int{999999999}) {
		t.Error("great numbers", got)
	}
}

func TestP36_2Result(t *testing.T) {
	for i, c := range []struct {
		tenders      []api.Tender
		taken, given []api.Share
	}{
		{[]api.Tender{tender(0, 5, 9)}, nil, nil}, {[]api.Tender{tender(0, 20, 3), tender(1, 1, 10)}, share2(0, 8), share2(0, 8)}, {[]api.Tender{tender(0, 8, 6), tender(1, 4, 5)}, share2(0, 6, 1, 4), share2(0, 5, 1, 4)},
		{[]api.Tender{tender(0, 8, 5), tender(1, 4, 5), tender(2, 6, 9)}, share2(0, 7, 1, 3), share2(0, 7, 1, 3)}, {[]api.Tender{tender(2, 1, 8), tender(0, 3, 8), tender(2, 5, 3)}, share2(0, 3, 2, 6), share2(0, 2, 2, 5)}, {[]api.Tender{tender(1, 1, 9), tender(0, 5, 1)}, share2(0, 5, 1, 1), share2(0, 5)},
	} {
		a, b, e := offer.Result(example(), c.tenders, units())
		if !slices.Equal(a, c.taken) || !slices.Equal(b, c.given) || e != api.OK {
			t.Error(i, a, b, e)
		}
	}
	if a, b, e := offer.Result(api.Offer{Least: 1}, nil, nil); len(a) != 0 || len(b) != 0 || e != api.ErrArg {
		t.Error("arg")
	}
}

func TestP36_3Pure(t *testing.T) {
	u, l := units(), []api.Tender{tender(0, 8, 5), tender(1, 4, 5), tender(2, 6, 9)}
	offer.Result(example(), l, u)
	if !slices.Equal(u, units()) || l[0] != tender(0, 8, 5) {
		t.Error("changed")
	}
}

func random(r *rand.Rand) (api.Offer, []api.Tender, []int) {
	o := example()
	o.Most = r.Intn(25)
	o.Least = r.Intn(o.Most + 1)
	var l []api.Tender
	for range r.Intn(7) {
		l = append(l, tender(r.Intn(3), 1+r.Intn(9), r.Intn(12)))
	}
	return o, l, []int{r.Intn(12), r.Intn(12), r.Intn(12)}
}

// goodFor says by the definition what each tender is good for, and the sums of early and of late ones.
func goodFor(o api.Offer, l []api.Tender, u []int) (good []int, early, late int) {
	left := slices.Clone(u)
	for _, x := range l {
		n := 0
		if x.Day <= o.Late {
			n = min(x.Units, left[x.Seat])
		}
		left[x.Seat] -= n
		good = append(good, n)
		if x.Day <= o.Early {
			early += n
		} else {
			late += n
		}
	}
	return good, early, late
}

func TestP36_4Exactly(t *testing.T) {
	r := rand.New(rand.NewSource(1))
	for range 1000 {
		o, l, u := random(r)
		taken, _ := offer.Taken(o, l, u)
		good, early, late := goodFor(o, l, u)
		sum, seats := 0, make([]int, 3)
		for i, n := range taken {
			sum += n
			seats[l[i].Seat] += n
			if n > good[i] || n > l[i].Units || n < 0 {
				t.Fatal("more than it says")
			}
		}
		want := min(early+late, o.Most)
		if early+late < o.Least {
			want = 0
		}
		if sum != want || seats[0] > u[0] || seats[1] > u[1] || seats[2] > u[2] {
			t.Fatal(o, l, u, taken)
		}
	}
}

func TestP36_5Equal(t *testing.T) {
	r := rand.New(rand.NewSource(2))
	for range 1000 {
		o, l, u := random(r)
		taken, _ := offer.Taken(o, l, u)
		good, early, late := goodFor(o, l, u)
		if early+late <= o.Most || o.Most == 0 {
			continue
		}
		m, total, isLate := o.Most, early, false
		if early < o.Most {
			m, total, isLate = o.Most-early, late, true
		}
		for i, x := range l {
			if x.Day > o.Late || (x.Day > o.Early) != isLate {
				continue
			}
			if d := taken[i]*total - good[i]*m; d >= total || d <= -total {
				t.Fatal(o, l, u, taken)
			}
		}
		for i, x := range l {
			for k, y := range l {
				if x.Day > o.Early && taken[i] > 0 && y.Day <= o.Early && taken[k] < good[k] {
					t.Fatal("early ones first")
				}
			}
		}
	}
}

func TestP36_6Late(t *testing.T) {
	r := rand.New(rand.NewSource(3))
	for range 1000 {
		o, l, u := random(r)
		o.Least = 0
		before, _ := offer.Taken(o, l, u)
		after, _ := offer.Taken(o, append(slices.Clone(l), tender(r.Intn(3), 1+r.Intn(9), 7)), u)
		for i, x := range l {
			if x.Day <= o.Early && before[i] != after[i] {
				t.Fatal(o, l, u)
			}
		}
	}
}

func TestP36_1Limits(t *testing.T) {
	o := api.Offer{Issue: 399, To: 399, Early: 200000, Late: 200000, New: 10000, Less: 10000, Least: api.MaxUnits, Most: api.MaxUnits}
	units := make([]int, 20000)
	units[0] = api.MaxUnits
	tenders := slices.Repeat([]api.Tender{tender(0, api.MaxUnits, 200000)}, 2000)
	a, b, e := offer.Result(o, tenders, units)
	if e != api.OK || !slices.Equal(a, share2(0, api.MaxUnits)) || !slices.Equal(b, share2(0, 10*api.MaxUnits)) {
		t.Error(a, b, e)
	}
	// Exactly Most early ones leave nothing for late ones.
	if got, e := offer.Taken(example(), []api.Tender{tender(0, 6, 9), tender(1, 4, 1), tender(2, 6, 1)}, units[:0]); len(got) != 0 || e != api.ErrArg {
		t.Error(got, e)
	}
	if got, e := offer.Taken(example(), []api.Tender{tender(0, 6, 9), tender(1, 4, 1), tender(2, 6, 1)}, []int{8, 4, 6}); !slices.Equal(got, []int{0, 4, 6}) || e != api.OK {
		t.Error(got, e)
	}
	if got, _ := offer.Taken(example(), []api.Tender{tender(1, 4, 1), tender(2, 6, 8)}, []int{8, 4, 6}); !slices.Equal(got, []int{4, 6}) {
		t.Error("exactly Most", got)
	}
}
