package diff_test

import (
	"math/rand"
	"slices"
	"strings"
	"testing"

	"consol/api"
	"consol/diff"
	"consol/syntax"
)

const text = "issue a of b ; face 1000 ; from 2000 - 1 - 15 to 2010 - 1 - 15 every 6 months ; count thirty ; adjust next ; record 2 ; rank 1 ; let base = 20 mille ; coupon base + rate c / 2 ; cap 100 ; covenant cover must fact debt < 3 * fact ebit grace 30 ; favour c ; cross 5000 ; call 2005 - 1 - 15 at 1010 ; majority 667 ; fast 250 ;"

func indenture() api.Indenture {
	x, _, e := syntax.Parse(text)
	if e != api.OK {
		panic("text")
	}
	return x
}

func words(s string) []string { return strings.Fields(s) }

func change(l ...int) []api.Change {
	var out []api.Change
	for i := 0; i < len(l); i += 2 {
		out = append(out, api.Change{Old: l[i], New: l[i+1]})
	}
	return out
}

func TestP34_1Clauses(t *testing.T) {
	l := diff.Clauses(indenture())
	if len(l) != 16 || l[0] != "issue a of b ;" || l[1] != "face 1000 ;" || l[15] != "fast 250 ;" {
		t.Errorf("%q", l)
	}
	if len(diff.Clauses(api.Indenture{})) != 0 {
		t.Error("not right")
	}
}

func TestP34_2Compare(t *testing.T) {
	for _, c := range []struct {
		a, b string
		want []api.Change
	}{
		{"p q r", "p r s", change(0, 0, 1, -1, 2, 1, -1, 2)}, {"p q", "q p", change(0, -1, 1, 0, -1, 1)}, {"", "p", change(-1, 0)}, {"p", "", change(0, -1)}, {"", "", nil}, {"p", "q", change(0, -1, -1, 0)}, {"a b c", "x c", change(0, -1, 1, -1, -1, 0, 2, 1)}, {"a b", "b c a b", change(-1, 0, -1, 1, 0, 2, 1, 3)},
	} {
		if got := diff.Compare(words(c.a), words(c.b)); !slices.Equal(got, c.want) {
			t.Error(c, got)
		}
	}
	long := slices.Repeat([]string{"x"}, 201)
	if len(diff.Compare(long, nil)) != 0 || len(diff.Compare(nil, long)) != 0 || len(diff.Compare(long[1:], long[1:])) != 200 {
		t.Error("limit")
	}
}

func TestP34_3Apply(t *testing.T) {
	a, b := words("p q r"), words("p r s")
	if got, e := diff.Apply(a, b, change(0, 0, 1, -1, 2, 1, -1, 2)); !slices.Equal(got, b) || e != api.OK {
		t.Error(got, e)
	}
	if got, e := diff.Apply(a, b, change(0, -1, 1, -1, 2, -1, -1, 0, -1, 1, -1, 2)); !slices.Equal(got, b) || e != api.OK {
		t.Error("not the shortest", got, e)
	}
	for i, l := range [][]api.Change{nil, change(0, 0, 1, -1, 2, 1), change(0, 0, 1, 1, 2, -1, -1, 2), change(0, 0, 2, 1, 1, -1, -1, 2), change(-1, -1), change(0, 0, 1, -1, 2, 1, -1, 2, 3, -1), change(0, 0, 1, -1, 2, 1, -1, 2, -1, 3), change(-2, 0), change(0, -2)} {
		if got, e := diff.Apply(a, b, l); len(got) != 0 || e != api.ErrCheck {
			t.Error(i, got, e)
		}
	}
	long := slices.Repeat([]string{"x"}, 300)
	var stay []api.Change
	for i := range long {
		stay = append(stay, api.Change{Old: i, New: i})
	}
	if got, e := diff.Apply(long, long, stay); len(got) != 300 || e != api.OK {
		t.Error("long lists")
	}
}

func TestP34_4Reserved(t *testing.T) {
	for name, alter := range map[string]func(x *api.Indenture){
		"face": func(x *api.Indenture) { x.Face++ }, "from": func(x *api.Indenture) { x.From++ }, "to": func(x *api.Indenture) { x.To++ }, "rank": func(x *api.Indenture) { x.Rank = -5 }, "majority": func(x *api.Indenture) { x.Majority++ },
		"coupon": func(x *api.Indenture) { x.Cap++ }, "coupon ": func(x *api.Indenture) { x.Lets = nil }, "coupon  ": func(x *api.Indenture) { x.Coupon.Op = 99 }, "": func(x *api.Indenture) { x.Notice, x.Name, x.Every, x.Covenants, x.Fast = 5, "q", 7, nil, 1 },
	} {
		x := indenture()
		alter(&x)
		if got := diff.Reserved(indenture(), x); strings.Join(got, " ") != strings.TrimSpace(name) {
			t.Error(name, got)
		}
	}
	if got := diff.Reserved(indenture(), api.Indenture{}); !slices.Equal(got, words("face from to coupon rank majority")) {
		t.Error(got)
	}
	if got := diff.Reserved(api.Indenture{}, api.Indenture{Lets: []api.Let{}, Coupon: api.Exp{Args: []api.Exp{}}}); len(got) != 0 {
		t.Error("nil", got)
	}
}

func TestP34_5Fresh(t *testing.T) {
	a := words("p q")
	got, _ := diff.Apply(a, a, change(0, 0, 1, 1))
	got[0] = "x"
	if a[0] != "p" {
		t.Error("shared")
	}
}

func random(r *rand.Rand) []string {
	var l []string
	for range r.Intn(7) {
		l = append(l, string(rune('a'+r.Intn(3))))
	}
	return l
}

func changes(l []api.Change) int {
	n := 0
	for _, c := range l {
		if c.Old == -1 || c.New == -1 {
			n++
		}
	}
	return n
}

// fewest finds the least number of changes among all comparisons.
func fewest(a, b []string) int {
	if len(a) == 0 || len(b) == 0 {
		return len(a) + len(b)
	}
	n := 1 + min(fewest(a[1:], b), fewest(a, b[1:]))
	if a[0] == b[0] {
		n = min(n, fewest(a[1:], b[1:]))
	}
	return n
}

func TestP34_6Fewest(t *testing.T) {
	r := rand.New(rand.NewSource(1))
	for range 500 {
		a, b := random(r), random(r)
		l := diff.Compare(a, b)
		if got, e := diff.Apply(a, b, l); e != api.OK || !slices.Equal(got, b) || changes(l) != fewest(a, b) {
			t.Fatal(a, b, l)
		}
	}
}

func TestP34_7Back(t *testing.T) {
	r := rand.New(rand.NewSource(2))
	for range 500 {
		a, b := random(r), random(r)
		l := diff.Compare(a, b)
		if changes(l) != changes(diff.Compare(b, a)) || changes(diff.Compare(a, a)) != 0 {
			t.Fatal(a, b)
		}
		m := diff.Compare(append([]string{"z"}, a...), append([]string{"z"}, b...))
		if m[0] != (api.Change{}) || len(m) != len(l)+1 {
			t.Fatal(m)
		}
		for i, c := range m[1:] {
			if c.Old >= 0 {
				c.Old--
			}
			if c.New >= 0 {
				c.New--
			}
			if c != l[i] {
				t.Fatal(m, l)
			}
		}
	}
}

func TestP34_8Clauses(t *testing.T) {
	x := indenture()
	s, _ := syntax.Print(x)
	if strings.Join(diff.Clauses(x), "\n")+"\n" != s {
		t.Error("joined")
	}
	y := indenture()
	y.Fast, y.Notice = 9, 5
	if len(diff.Reserved(x, y)) != 0 {
		t.Fatal("reserved")
	}
	a, b := diff.Clauses(x), diff.Clauses(y)
	for _, c := range diff.Compare(a, b) {
		for _, word := range []string{"face", "from", "let", "coupon", "cap", "rank", "majority"} {
			if c.New == -1 && strings.HasPrefix(a[c.Old], word) || c.Old == -1 && strings.HasPrefix(b[c.New], word) {
				t.Error(c)
			}
		}
	}
}
