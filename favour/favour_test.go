package favour_test

import (
	"math/rand"
	"slices"
	"strconv"
	"testing"

	"consol/api"
	"consol/favour"
)

func issue(name string, covenants int, names ...string) api.Indenture {
	return api.Indenture{Name: name, Covenants: make([]api.Covenant, covenants), Favour: names}
}

func example() []api.Indenture {
	return []api.Indenture{issue("a", 1, "b"), issue("b", 0, "c"), issue("c", 1)}
}

func same(a, b []favour.Held) bool {
	return slices.EqualFunc(a, b, func(x, y favour.Held) bool {
		return x.Issue == y.Issue && x.Covenant == y.Covenant && x.Since == y.Since && slices.Equal(x.Chain, y.Chain)
	})
}

func TestP18_1Closure(t *testing.T) {
	got, e := favour.Closure(example(), []int{5, 9, 7})
	want := [][]favour.Held{{{0, 0, 5, []int{0}}, {2, 0, 9, []int{0, 1, 2}}}, {{2, 0, 9, []int{1, 2}}}, {{2, 0, 7, []int{2}}}}
	if e != api.OK || !slices.EqualFunc(got, want, same) {
		t.Error(got, e)
	}
	// The shortest chain is not the earliest one; of two equal ones the least counts.
	l := []api.Indenture{issue("a", 0, "d", "c", "b", "e"), issue("b", 0, "e"), issue("c", 0, "e"), issue("d", 0, "e"), issue("e", 2, "a")}
	for _, c := range []struct {
		days  []int
		since int
		chain []int
	}{{[]int{1, 1, 1, 1, 1}, 1, []int{0, 4}}, {[]int{1, 1, 1, 1, 9}, 9, []int{0, 4}}} {
		got, _ := favour.Closure(l, c.days)
		if h := got[0]; len(h) != 2 || h[1].Covenant != 1 || h[1].Since != c.since || !slices.Equal(h[1].Chain, c.chain) {
			t.Error(h)
		}
	}
	l[0].Favour = []string{"d", "c", "b"}
	got, _ = favour.Closure(l, []int{1, 5, 3, 3, 2})
	if h := got[0][0]; h.Since != 3 || !slices.Equal(h.Chain, []int{0, 2, 4}) {
		t.Error(h)
	}
}

func TestP18_1Errors(t *testing.T) {
	ok := []int{0}
	for i, c := range []struct {
		l    []api.Indenture
		days []int
		want api.Errno
	}{
		{[]api.Indenture{issue("a", 1)}, nil, api.ErrArg}, {[]api.Indenture{issue("a", 1)}, []int{-1}, api.ErrArg}, {[]api.Indenture{issue("a", 1)}, []int{200001}, api.ErrArg},
		{[]api.Indenture{issue("a", 21)}, ok, api.ErrArg}, {[]api.Indenture{issue("a", 0, make([]string, 21)...)}, ok, api.ErrArg}, {make([]api.Indenture, 401), make([]int, 401), api.ErrArg},
		{[]api.Indenture{issue("a", 1, "q"), issue("a", 1)}, []int{0, 0}, api.ErrTwice}, {[]api.Indenture{issue("a", 1, "q")}, ok, api.ErrName},
		{[]api.Indenture{issue("", 20, "", "")}, []int{200000}, api.OK}, {nil, nil, api.OK},
	} {
		if got, e := favour.Closure(c.l, c.days); e != c.want || e != api.OK && len(got) != 0 {
			t.Error(i, e)
		}
	}
}

func TestP18_2Fresh(t *testing.T) {
	got, _ := favour.Closure([]api.Indenture{issue("a", 2)}, []int{0})
	got[0][0].Chain[0] = 9
	if got[0][1].Chain[0] != 0 {
		t.Error("shared")
	}
}

func random(r *rand.Rand) ([]api.Indenture, []int) {
	n := 1 + r.Intn(6)
	var l []api.Indenture
	var days []int
	for i := range n {
		x := issue(strconv.Itoa(i), r.Intn(3))
		for range r.Intn(3) {
			x.Favour = append(x.Favour, strconv.Itoa(r.Intn(n)))
		}
		l = append(l, x)
		days = append(days, r.Intn(5))
	}
	return l, days
}

// best finds the chain of two issues among all of them.
func best(l []api.Indenture, days []int, from, to int) (int, []int) {
	since, chain := -1, []int(nil)
	var walk func(way []int, day int)
	walk = func(way []int, day int) {
		at := way[len(way)-1]
		day = max(day, days[at])
		if at == to {
			if since < 0 || day < since || day == since && (len(way) < len(chain) || len(way) == len(chain) && slices.Compare(way, chain) < 0) {
				since, chain = day, slices.Clone(way)
			}
			return
		}
		for _, name := range l[at].Favour {
			if j, _ := strconv.Atoi(name); !slices.Contains(way, j) {
				walk(append(slices.Clone(way), j), day)
			}
		}
	}
	walk([]int{from}, 0)
	return since, chain
}

func TestP18_3All(t *testing.T) {
	r := rand.New(rand.NewSource(1))
	for range 500 {
		l, days := random(r)
		got, _ := favour.Closure(l, days)
		for i := range l {
			var want []favour.Held
			for j, x := range l {
				since, chain := best(l, days, i, j)
				for k := range x.Covenants {
					if since >= 0 {
						want = append(want, favour.Held{j, k, since, chain})
					}
				}
			}
			if !same(got[i], want) {
				t.Fatal(got[i], want)
			}
		}
	}
}

func TestP18_4Chains(t *testing.T) {
	r := rand.New(rand.NewSource(2))
	for range 300 {
		l, days := random(r)
		got, _ := favour.Closure(l, days)
		for i := range l {
			for _, h := range got[i] {
				latest := 0
				for k, at := range h.Chain {
					latest = max(latest, days[at])
					if k > 0 && !slices.Contains(l[h.Chain[k-1]].Favour, strconv.Itoa(at)) {
						t.Fatal("no favour")
					}
				}
				if h.Chain[0] != i || h.Chain[len(h.Chain)-1] != h.Issue || latest != h.Since {
					t.Fatal(h)
				}
			}
		}
	}
}

func TestP18_5Monotone(t *testing.T) {
	r := rand.New(rand.NewSource(3))
	for range 300 {
		l, days := random(r)
		before, _ := favour.Closure(l, days)
		i, j := r.Intn(len(l)), r.Intn(len(l))
		l[i].Favour = append(l[i].Favour, strconv.Itoa(j))
		after, _ := favour.Closure(l, days)
		later := slices.Clone(days)
		later[j] += 2
		late, _ := favour.Closure(l, later)
		find := func(all []favour.Held, h favour.Held) int {
			return slices.IndexFunc(all, func(x favour.Held) bool { return x.Issue == h.Issue && x.Covenant == h.Covenant })
		}
		for k := range l {
			for _, h := range before[k] {
				if at := find(after[k], h); at < 0 || after[k][at].Since > h.Since {
					t.Fatal("with one more favour")
				}
			}
			for _, h := range after[k] {
				if at := find(late[k], h); at < 0 || late[k][at].Since < h.Since {
					t.Fatal("with a later text")
				}
			}
		}
	}
}

func TestP18_6None(t *testing.T) {
	got, _ := favour.Closure([]api.Indenture{issue("a", 2), issue("b", 1)}, []int{3, 4})
	if !slices.EqualFunc(got, [][]favour.Held{{{0, 0, 3, []int{0}}, {0, 1, 3, []int{0}}}, {{1, 0, 4, []int{1}}}}, same) {
		t.Error(got)
	}
}

func TestP18_1Limits(t *testing.T) {
	var l []api.Indenture
	var days []int
	for i := range 400 {
		x := issue(strconv.Itoa(i), 20)
		for k := range 20 {
			x.Favour = append(x.Favour, strconv.Itoa((i/20*20+k)%400))
		}
		l, days = append(l, x), append(days, 200000*(i%2))
	}
	got, e := favour.Closure(l, days)
	if e != api.OK || len(got) != 400 || len(got[0]) != 400 || got[0][25].Since != 200000 || got[0][45].Since != 0 {
		t.Error("400 issues, 20 covenants and names of each", e)
	}
}
