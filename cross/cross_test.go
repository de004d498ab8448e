package cross_test

import (
	"math/rand"
	"slices"
	"testing"

	"consol/api"
	"consol/cross"
)

func example() []api.Debt {
	return []api.Debt{{Left: 50, Over: 30, Fast: -1}, {Left: 40, Over: 100, Fast: 7}, {Left: 10, Over: 45, Fast: -1}}
}

func cause(issue, because, round, day int) api.Cause {
	return api.Cause{Issue: issue, Because: because, Round: round, Day: day}
}

func closed() []api.Cause {
	return []api.Cause{cause(0, 1, 1, 7), cause(1, -1, 0, 7), cause(2, 0, 2, 7)}
}

func wrongs() []api.Debt {
	return []api.Debt{{Issuer: -1, Over: -1, Fast: -1}, {Issuer: 60, Over: -1, Fast: -1}, {Left: -1}, {Left: api.MaxMoney + 1}, {Over: -2}, {Over: api.MaxMoney + 1}, {Fast: -2}, {Fast: 200001}}
}

func TestP28_1Close(t *testing.T) {
	if got, e := cross.Close(example()); !slices.Equal(got, closed()) || e != api.OK {
		t.Error(got, e)
	}
	l := example()
	l[1].Left = 30
	if got, _ := cross.Close(l); !slices.Equal(got, closed()[1:2]) {
		t.Error(got)
	}
	for i, w := range wrongs() {
		if got, e := cross.Close([]api.Debt{w}); len(got) != 0 || e != api.ErrArg || cross.Check([]api.Debt{w}, nil) {
			t.Error(i)
		}
	}
	if _, e := cross.Close(make([]api.Debt, 401)); e != api.ErrArg {
		t.Error("too many")
	}
	if got, e := cross.Close(nil); len(got) != 0 || e != api.OK {
		t.Error("none")
	}
	// An earlier day counts more than fewer rounds; the least cause of a round counts.
	l = []api.Debt{{Left: 1, Over: 0, Fast: 9}, {Left: 1, Over: -1, Fast: 5}, {Left: 1, Over: -1, Fast: 5}, {Left: 1, Over: 0, Fast: 3, Issuer: 1}}
	if got, _ := cross.Close(l); !slices.Equal(got, []api.Cause{cause(0, 1, 1, 5), cause(1, -1, 0, 5), cause(2, -1, 0, 5), cause(3, -1, 0, 3)}) {
		t.Error(got)
	}
}

func TestP28_2Chain(t *testing.T) {
	for issue, want := range [][]int{{0, 1}, {1}, {2, 0, 1}, nil} {
		if got := cross.Chain(closed(), issue); !slices.Equal(got, want) {
			t.Error(issue, got)
		}
	}
	if len(cross.Chain([]api.Cause{cause(0, 1, 1, 0), cause(1, 0, 1, 0)}, 0)) != 0 || len(cross.Chain(nil, 0)) != 0 || len(cross.Chain([]api.Cause{cause(0, 5, 1, 0)}, 0)) != 0 {
		t.Error("no chain")
	}
	if got := cross.Chain([]api.Cause{cause(0, -1, 0, 0), cause(0, 7, 0, 0)}, 0); !slices.Equal(got, []int{0}) {
		t.Error("the first element counts", got)
	}
}

func TestP28_3Check(t *testing.T) {
	if !cross.Check(example(), closed()) || !cross.Check(nil, nil) {
		t.Error("refused")
	}
	for i, c := range [][]api.Cause{
		nil, closed()[:2], closed()[1:], {closed()[1], closed()[0], closed()[2]}, append(closed(), cause(3, -1, 0, 7)), append([]api.Cause{cause(-1, -1, 0, 0)}, closed()...),
		{cause(0, 1, 1, 8), cause(1, -1, 0, 7), cause(2, 0, 2, 7)}, {cause(0, 1, 2, 7), cause(1, -1, 0, 7), cause(2, 0, 3, 7)}, {cause(0, 2, 1, 7), cause(1, -1, 0, 7), cause(2, 0, 2, 7)}, {cause(0, -1, 0, -1), cause(1, -1, 0, 7), cause(2, 0, 1, 7)},
		{cause(0, 1, 1, 7), cause(1, -1, 1, 7), cause(2, 0, 2, 7)}, {cause(0, 1, 1, 7), cause(1, -1, 0, 6), cause(2, 0, 2, 7)}, {cause(0, 1, 1, 7), cause(1, -1, 0, 7), cause(1, -1, 0, 7), cause(2, 0, 2, 7)},
	} {
		if cross.Check(example(), c) {
			t.Error(i)
		}
	}
	l := []api.Debt{{Left: 1, Over: 0, Fast: -1}, {Left: 1, Over: -1, Fast: 5}, {Left: 1, Over: -1, Fast: 5}}
	good := []api.Cause{cause(0, 1, 1, 5), cause(1, -1, 0, 5), cause(2, -1, 0, 5)}
	if !cross.Check(l, good) {
		t.Error("refused")
	}
	good[0].Because = 2
	if cross.Check(l, good) {
		t.Error("a lesser cause")
	}
}

func TestP28_4Pure(t *testing.T) {
	l, c := example(), closed()
	cross.Close(l)
	cross.Check(l, c)
	cross.Chain(c, 2)
	if !slices.Equal(l, example()) || !slices.Equal(c, closed()) {
		t.Error("changed")
	}
}

func random(r *rand.Rand) []api.Debt {
	var l []api.Debt
	for range 1 + r.Intn(5) {
		d := api.Debt{Issuer: r.Intn(2), Left: r.Intn(6), Over: r.Intn(6) - 1, Fast: -1}
		if r.Intn(3) == 0 {
			d.Fast = r.Intn(4)
		}
		l = append(l, d)
	}
	return l
}

// canBring says by the definition whether the issue i can bring down the issue j.
func canBring(l []api.Debt, i, j int) bool {
	return i != j && l[i].Issuer == l[j].Issuer && l[j].Over != -1 && l[i].Left > l[j].Over
}

// chains returns all chains of an issue.
func chains(l []api.Debt, way []int) [][]int {
	at := way[len(way)-1]
	var out [][]int
	if l[at].Fast != -1 {
		out = append(out, way)
	}
	for i := range l {
		if canBring(l, i, at) && !slices.Contains(way, i) {
			out = append(out, chains(l, append(slices.Clone(way), i))...)
		}
	}
	return out
}

func TestP28_5Only(t *testing.T) {
	r := rand.New(rand.NewSource(1))
	for range 1000 {
		l := random(r)
		got, _ := cross.Close(l)
		if !cross.Check(l, got) {
			t.Fatal(l, got)
		}
		var want []api.Cause
		for i := range l {
			var best []int
			for _, c := range chains(l, []int{i}) {
				day := func(c []int) int { return l[c[len(c)-1]].Fast }
				if len(best) == 0 || day(c) < day(best) || day(c) == day(best) && (len(c) < len(best) || len(c) == len(best) && slices.Compare(c, best) < 0) {
					best = c
				}
			}
			if len(best) == 0 {
				continue
			}
			x := cause(i, -1, len(best)-1, l[best[len(best)-1]].Fast)
			if len(best) > 1 {
				x.Because = best[1]
			}
			want = append(want, x)
		}
		if !slices.Equal(got, want) {
			t.Fatal(l, got, want)
		}
		if len(got) == 0 {
			continue
		}
		other := slices.Clone(got)
		switch k := r.Intn(len(other)); r.Intn(5) {
		case 0:
			other[k].Day += r.Intn(3) - 1
		case 1:
			other[k].Round += r.Intn(3) - 1
		case 2:
			other[k].Because = r.Intn(len(l)+1) - 1
		case 3:
			other = slices.Delete(other, k, k+1)
		case 4:
			other[k].Issue = r.Intn(len(l))
		}
		if cross.Check(l, other) != slices.Equal(got, other) {
			t.Fatal(l, got, other)
		}
	}
}

func TestP28_6Chains(t *testing.T) {
	r := rand.New(rand.NewSource(2))
	for range 500 {
		l := random(r)
		causes, _ := cross.Close(l)
		for _, c := range causes {
			chain := cross.Chain(causes, c.Issue)
			if len(chain) != c.Round+1 || chain[0] != c.Issue || l[chain[len(chain)-1]].Fast != c.Day {
				t.Fatal(chain)
			}
			for k := 1; k < len(chain); k++ {
				if !canBring(l, chain[k], chain[k-1]) {
					t.Fatal(chain)
				}
			}
		}
	}
}

func TestP28_7Less(t *testing.T) {
	r := rand.New(rand.NewSource(3))
	for range 500 {
		l := random(r)
		before, _ := cross.Close(l)
		found := map[int]api.Cause{}
		for _, c := range before {
			found[c.Issue] = c
		}
		k := r.Intn(len(l))
		if r.Intn(2) == 0 {
			l[k].Fast = -1
		} else {
			l[k].Left = max(0, l[k].Left-1)
		}
		after, _ := cross.Close(l)
		for _, c := range after {
			if x, ok := found[c.Issue]; !ok || c.Day < x.Day {
				t.Fatal("earlier")
			}
		}
	}
	l := append(example(), api.Debt{Issuer: 5, Left: 1000, Over: 0, Fast: 1})
	if got, _ := cross.Close(l); !slices.Equal(got[:3], closed()) {
		t.Error("other issuers")
	}
}

func TestP28_1Limits(t *testing.T) {
	var l []api.Debt
	for i := range 400 {
		l = append(l, api.Debt{Issuer: 59, Left: api.MaxMoney, Over: api.MaxMoney - i%2, Fast: -1})
	}
	l[0].Fast = 200000
	causes, e := cross.Close(l)
	if e != api.OK || len(causes) != 201 || !cross.Check(l, causes) || causes[1] != cause(1, 0, 1, 200000) {
		t.Error("400 issues", e, len(causes))
	}
}

func TestP28_3Reasons(t *testing.T) {
	debt := func(left, over, fast int) api.Debt { return api.Debt{Left: left, Over: over, Fast: fast} }
	for i, c := range []struct {
		l    []api.Debt
		c    []api.Cause
		want bool
	}{
		{[]api.Debt{debt(9, 0, 5), debt(9, 0, 5)}, []api.Cause{cause(0, -1, 0, 5), cause(1, -1, 0, 5)}, true},
		{[]api.Debt{debt(9, 0, 5), debt(9, 0, 5)}, []api.Cause{cause(0, -1, 0, 5), cause(1, 0, 1, 5)}, false},
		{[]api.Debt{debt(9, 0, 5), debt(9, 0, 4)}, []api.Cause{cause(0, 1, 1, 4), cause(1, -1, 0, 4)}, true},
		{[]api.Debt{debt(9, 0, 5), debt(9, 0, 4)}, []api.Cause{cause(0, -1, 0, 5), cause(1, -1, 0, 4)}, false},
		{[]api.Debt{debt(9, -1, -1)}, []api.Cause{cause(0, -1, 0, -1)}, false},
		{[]api.Debt{debt(9, -1, 5), debt(9, 8, -1), debt(9, 8, -1)}, []api.Cause{cause(0, -1, 0, 5), cause(1, 0, 1, 5), cause(2, 0, 1, 5)}, true},
		{[]api.Debt{debt(9, -1, 5), debt(9, 8, -1), debt(9, 8, -1)}, []api.Cause{cause(0, -1, 0, 5), cause(1, 0, 1, 5), cause(2, 1, 2, 5)}, false},
		{[]api.Debt{debt(9, -1, 5), debt(9, 8, -1)}, []api.Cause{cause(0, -1, 0, 5), cause(1, 0, 1, 6)}, false},
		{[]api.Debt{debt(9, -1, 5), debt(9, 8, -1)}, []api.Cause{cause(0, -1, 0, 5), cause(1, -2, 0, 5)}, false},
		{[]api.Debt{debt(9, -1, 5)}, []api.Cause{cause(0, -1, 1, 5)}, false},
	} {
		if cross.Check(c.l, c.c) != c.want {
			t.Error(i)
		}
	}
}
