package bind_test

import (
	"math/rand"
	"slices"
	"testing"

	"consol/api"
	"consol/bind"
	"consol/syntax"
	"consol/vote"
)

func issue(name, issuer string, majority int) api.Indenture {
	x, _, e := syntax.Parse("issue " + name + " of " + issuer + " ; face 1 ; from 2000 - 1 - 1 to 2001 - 1 - 1 every 1 months ; count fixed ; adjust none ; record 0 ; rank 0 ; coupon 1 mille ; cap 1 ; majority 1 ; fast 1 ;")
	if e != api.OK {
		panic(name)
	}
	x.Majority = majority
	return x
}

func two() []api.Indenture {
	return []api.Indenture{issue("a", "z", 660), issue("b", "z", 660)}
}

func TestP38_1Needed(t *testing.T) {
	a := issue("a", "z", 660)
	b, c := a, a
	b.Rank = 1
	c.Notice = 5
	if bind.Needed(a, a) != 0 || bind.Needed(a, b) != 660 || bind.Needed(a, c) != 501 {
		t.Error("needed")
	}
	b.Majority = 1
	if bind.Needed(a, b) != 660 || bind.Needed(api.Indenture{}, api.Indenture{Rank: 1, Majority: 700}) != 0 {
		t.Error("the old text reserves")
	}
	if bind.Reached(a, a, 10, 10) || !bind.Reached(a, b, 66, 100) || bind.Reached(a, b, 65, 100) || !bind.Reached(a, c, 501, 1000) || bind.Reached(a, c, 500, 1000) || bind.Reached(a, c, 5, 4) || bind.Reached(a, c, 0, 0) {
		t.Error("reached")
	}
}

func TestP38_2Binds(t *testing.T) {
	for i, c := range []struct {
		alter    func(l []api.Indenture)
		yes, all []int
		want     []bool
	}{
		{func(l []api.Indenture) { l[0].Rank = 1 }, []int{66, 0}, []int{100, 100}, []bool{true, false}},
		{func(l []api.Indenture) { l[0].Rank, l[1].Rank = 1, 1 }, []int{66, 65}, []int{100, 100}, []bool{false, false}},
		{func(l []api.Indenture) { l[0].Notice, l[1].Rank = 5, 1 }, []int{51, 66}, []int{100, 100}, []bool{true, true}},
		{func(l []api.Indenture) { l[0].Notice, l[1].Rank = 5, 1 }, []int{50, 66}, []int{100, 100}, []bool{false, true}},
		{func(l []api.Indenture) { l[0].Rank, l[1].Rank = 1, 1 }, []int{66, 66}, []int{100, 100}, []bool{true, true}},
	} {
		l := two()
		c.alter(l)
		if got, e := bind.Binds(two(), l, c.yes, c.all); !slices.Equal(got, c.want) || e != api.OK {
			t.Error(i, got, e)
		}
	}
	n := []int{1, 1}
	for i, c := range []struct {
		old, new []api.Indenture
		yes, all []int
		want     api.Errno
	}{
		{two(), two()[:1], n, n, api.ErrArg}, {two(), two(), n[:1], n, api.ErrArg}, {two(), two(), n, n[:1], api.ErrArg}, {two(), []api.Indenture{two()[0], {}}, n, n, api.ErrArg}, {[]api.Indenture{{}, two()[0]}, two(), n, n, api.ErrArg},
		{[]api.Indenture{two()[0], two()[0]}, two(), n, n, api.ErrTwice}, {two(), []api.Indenture{two()[1], two()[0]}, n, n, api.ErrName}, {two(), []api.Indenture{two()[0], issue("b", "y", 660)}, n, n, api.ErrName}, {make([]api.Indenture, 401), make([]api.Indenture, 401), make([]int, 401), make([]int, 401), api.ErrArg}, {nil, nil, nil, nil, api.OK},
	} {
		if got, e := bind.Binds(c.old, c.new, c.yes, c.all); e != c.want || e != api.OK && len(got) != 0 {
			t.Error(i, e)
		}
	}
}

func TestP38_3Pure(t *testing.T) {
	old, new := two(), two()
	new[0].Rank = 1
	bind.Binds(old, new, []int{66, 0}, []int{100, 100})
	if !syntax.Same(old[0], two()[0]) || new[0].Rank != 1 {
		t.Error("changed")
	}
}

func random(r *rand.Rand) (old, new []api.Indenture, yes, all []int) {
	for _, name := range []string{"a", "b", "c", "d"}[:1+r.Intn(4)] {
		x := issue(name, []string{"y", "z"}[r.Intn(2)], 1+r.Intn(1000))
		y := x
		switch r.Intn(4) {
		case 0, 1:
			y.Rank = 3
		case 2:
			y.Notice = 9
		}
		n := 1 + r.Intn(100)
		old, new, yes, all = append(old, x), append(new, y), append(yes, r.Intn(n+1)), append(all, n)
	}
	return old, new, yes, all
}

func TestP38_4Majorities(t *testing.T) {
	r := rand.New(rand.NewSource(1))
	for range 500 {
		old, new, yes, all := random(r)
		got, _ := bind.Binds(old, new, yes, all)
		for i := range old {
			want := bind.Reached(old[i], new[i], yes[i], all[i])
			for k := range old {
				if new[i].Rank == 3 && new[k].Rank == 3 && old[i].Issuer == old[k].Issuer && yes[k]*1000 < all[k]*old[k].Majority {
					want = false
				}
			}
			if got[i] != want {
				t.Fatal(i)
			}
		}
	}
}

func TestP38_5Others(t *testing.T) {
	old := append(two(), issue("c", "y", 900), issue("d", "z", 900))
	new := slices.Clone(old)
	new[0].Rank, new[1].Notice, new[2].Rank, new[3].Fast = 1, 7, 1, 9
	got, _ := bind.Binds(old, new, []int{66, 60, 10, 10}, []int{100, 100, 100, 100})
	if !slices.Equal(got, []bool{true, true, false, false}) {
		t.Error(got)
	}
}

func TestP38_6More(t *testing.T) {
	r := rand.New(rand.NewSource(2))
	for range 500 {
		old, new, yes, all := random(r)
		before, _ := bind.Binds(old, new, yes, all)
		k := r.Intn(len(yes))
		yes[k] = min(yes[k]+5, all[k])
		after, _ := bind.Binds(old, new, yes, all)
		old[k].Majority = min(old[k].Majority+50, 1000)
		new[k].Majority = old[k].Majority
		stricter, _ := bind.Binds(old, new, yes, all)
		for i := range before {
			if before[i] && !after[i] || stricter[i] && !after[i] {
				t.Fatal(i)
			}
		}
	}
}

func TestP38_7Back(t *testing.T) {
	units := []int{60, 40, 0}
	votes := []api.Vote{{Seat: 0, Day: 1, Yes: true}, {Seat: 2, Day: 1, Yes: true}, {Seat: 0, Day: 2}}
	new := two()
	new[0].Notice = 4
	for until, want := range map[int]bool{1: true, 2: false} {
		yes, all, _ := vote.Tally(units, votes, until)
		if got, _ := bind.Binds(two()[:1], new[:1], []int{yes}, []int{all}); got[0] != want {
			t.Error(until)
		}
	}
}

func TestP38_2Limits(t *testing.T) {
	var old, new []api.Indenture
	for i := range 400 {
		x := issue("n"+string(rune('a'+i%26))+string(rune('a'+i/26)), "z", 500)
		y := x
		y.Notice = 3
		old, new = append(old, x), append(new, y)
	}
	ones := slices.Repeat([]int{1}, 400)
	got, e := bind.Binds(old, new, ones, ones)
	if e != api.OK || len(got) != 400 || slices.Contains(got, false) {
		t.Error("400 issues", e)
	}
}
