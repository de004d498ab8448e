package quote_test

import (
	"math/rand"
	"reflect"
	"slices"
	"strconv"
	"testing"

	"consol/api"
	"consol/quote"
)

func rate(s string) api.Exp { return api.Exp{Op: api.ExRate, S: s} }

func name(s string) api.Exp { return api.Exp{Op: api.ExName, S: s} }

func of(op int, args ...api.Exp) api.Exp { return api.Exp{Op: op, Args: args} }

func issue(s string, coupon api.Exp, lets ...api.Let) api.Indenture {
	return api.Indenture{Name: s, Coupon: coupon, Lets: lets}
}

func example() []api.Indenture {
	return []api.Indenture{
		issue("a", api.Exp{Op: api.ExNum, N: 30, Unit: api.UnRate}),
		issue("b", of(api.ExAdd, rate("a"), rate("c"))),
		issue("c", of(api.ExMax, rate("b"), api.Exp{Op: api.ExNum, N: 10})),
		issue("d", of(api.ExAdd, name("x"), rate("e")), api.Let{Name: "x", Body: rate("a")}),
		issue("e", rate("e")),
	}
}

// same reports whether lists of lists are equal; nil and empty ones are.
func same(a, b [][]int) bool { return slices.EqualFunc(a, b, slices.Equal[[]int]) }

func TestP15_1Graph(t *testing.T) {
	g, e := quote.Graph(example())
	if want := [][]int{nil, {0, 2}, {1}, {0, 4}, {4}}; e != api.OK || !same(g, want) {
		t.Error(g, e)
	}
	if _, e := quote.Graph(make([]api.Indenture, 401)); e != api.ErrFull {
		t.Error("full")
	}
	if _, e := quote.Graph([]api.Indenture{issue("a", rate("q")), issue("a", name("x"))}); e != api.ErrTwice {
		t.Error("twice")
	}
	if g, e := quote.Graph([]api.Indenture{issue("a", rate("q"))}); len(g) != 0 || e != api.ErrName {
		t.Error("name")
	}
	x := issue("a", name("x"), api.Let{Name: "x", Body: name("y")}, api.Let{Name: "x", Body: rate("q")}, api.Let{Name: "y", Body: of(api.ExIf, name("x"), name("none"), rate("a"))}, api.Let{Name: "unused", Body: rate("q")})
	x.Covenants = []api.Covenant{{Must: rate("q")}}
	if g, e := quote.Graph([]api.Indenture{x}); e != api.OK || !slices.Equal(g[0], []int{0}) {
		t.Error("lets", g, e)
	}
	if g, e := quote.Graph(nil); len(g) != 0 || e != api.OK {
		t.Error("none")
	}
}

func TestP15_2Groups(t *testing.T) {
	g, e := quote.Groups(example())
	if want := [][]int{{0}, {1, 2}, {4}, {3}}; e != api.OK || !same(g, want) {
		t.Error(g, e)
	}
	if g, e := quote.Groups([]api.Indenture{issue("a", rate("q"))}); len(g) != 0 || e != api.ErrName {
		t.Error("name")
	}
	// 0 waits for 3; 1 and 2 can come before, and 3 as soon as 2 was found.
	l := []api.Indenture{issue("a", rate("d")), issue("b", name("x")), issue("c", name("x")), issue("d", rate("c"))}
	if g, _ := quote.Groups(l); !same(g, [][]int{{1}, {2}, {3}, {0}}) {
		t.Error(g)
	}
}

func TestP15_3Circle(t *testing.T) {
	g := [][]int{nil, {0, 2}, {1}, {0, 4}, {4}}
	for i, c := range []struct {
		group []int
		want  bool
	}{{[]int{0}, false}, {[]int{1, 2}, true}, {[]int{4}, true}, {[]int{3}, false}, {nil, false}, {[]int{-1}, false}, {[]int{5}, false}, {[]int{9, 9}, true}} {
		if quote.Circle(g, c.group) != c.want {
			t.Error(i)
		}
	}
}

func TestP15_4Fresh(t *testing.T) {
	l := example()
	a, _ := quote.Graph(l)
	a[1][0] = 9
	b, _ := quote.Graph(l)
	g, _ := quote.Groups(l)
	g[1][0] = 9
	h, _ := quote.Groups(l)
	if b[1][0] != 0 || h[1][0] != 1 {
		t.Error("shared")
	}
}

func random(r *rand.Rand) []api.Indenture {
	n := 1 + r.Intn(9)
	var l []api.Indenture
	for i := range n {
		e := name("x")
		for range r.Intn(3) {
			e = of(api.ExAdd, e, rate(strconv.Itoa(r.Intn(n))))
		}
		l = append(l, issue(strconv.Itoa(i), e))
	}
	return l
}

func reach(g [][]int) [][]bool {
	n := len(g)
	m := make([][]bool, n)
	for i := range m {
		m[i] = make([]bool, n)
		for _, j := range g[i] {
			m[i][j] = true
		}
	}
	for k := range n {
		for i := range n {
			for j := range n {
				m[i][j] = m[i][j] || m[i][k] && m[k][j]
			}
		}
	}
	return m
}

func TestP15_5Groups(t *testing.T) {
	r := rand.New(rand.NewSource(1))
	for range 500 {
		l := random(r)
		g, _ := quote.Graph(l)
		groups, _ := quote.Groups(l)
		m := reach(g)
		at := map[int]int{}
		for k, group := range groups {
			for _, i := range group {
				if _, ok := at[i]; ok {
					t.Fatal("twice")
				}
				at[i] = k
			}
		}
		for i := range l {
			for _, j := range g[i] {
				if at[j] > at[i] {
					t.Fatal("order")
				}
			}
			for j := range l {
				if i != j && (at[i] == at[j]) != (m[i][j] && m[j][i]) {
					t.Fatal("groups")
				}
			}
		}
		if len(at) != len(l) {
			t.Fatal("missing")
		}
	}
}

// named returns the groups as sets of names.
func named(l []api.Indenture) map[string]bool {
	groups, _ := quote.Groups(l)
	m := map[string]bool{}
	for _, g := range groups {
		var names []string
		for _, i := range g {
			names = append(names, l[i].Name)
		}
		slices.Sort(names)
		m[strconv.Quote(names[0])+names[len(names)-1]+strconv.Itoa(len(names))] = true
	}
	return m
}

func TestP15_6Order(t *testing.T) {
	r := rand.New(rand.NewSource(2))
	for range 300 {
		l := random(r)
		m := slices.Clone(l)
		r.Shuffle(len(m), func(i, j int) { m[i], m[j] = m[j], m[i] })
		if !reflect.DeepEqual(named(l), named(m)) {
			t.Fatal("another order")
		}
		more := append(slices.Clone(l), issue("new", of(api.ExAdd, rate("0"), rate("new"))))
		groups := named(more)
		delete(groups, strconv.Quote("new")+"new1")
		if !reflect.DeepEqual(groups, named(l)) {
			t.Fatal("an issue that nobody quotes")
		}
	}
}

func TestP15_7Later(t *testing.T) {
	r := rand.New(rand.NewSource(3))
	for range 300 {
		l := append(random(r), issue("new", rate("0")))
		groups, _ := quote.Groups(l)
		at := func(i int) int {
			return slices.IndexFunc(groups, func(g []int) bool { return slices.Contains(g, i) })
		}
		if k := at(len(l) - 1); len(groups[k]) != 1 || at(0) >= k {
			t.Fatal(groups)
		}
	}
}

func TestP15_1Limits(t *testing.T) {
	var l []api.Indenture
	for i := range 400 {
		l = append(l, issue(strconv.Itoa(i), rate(strconv.Itoa((i+1)%400))))
	}
	if g, e := quote.Groups(l); e != api.OK || len(g) != 1 || len(g[0]) != 400 {
		t.Error("400 issues", e)
	}
	if quote.Circle([][]int{{0}}, []int{0}) != true || quote.Circle([][]int{{1}, nil}, []int{0}) {
		t.Error("the first issue")
	}
}
