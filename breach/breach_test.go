package breach_test

import (
	"math/rand"
	"testing"

	"consol/api"
	"consol/breach"
)

const (
	F = api.WaFalse
	T = api.WaTrue
	O = api.WaOpen
)

func b(stage, since int) api.Breach { return api.Breach{Stage: stage, Since: since} }

func wrongs() []api.Breach {
	return []api.Breach{b(-1, 0), b(api.BrKinds, 0), b(api.BrBreach, -1), b(api.BrBreach, 200001), b(api.BrNone, 1)}
}

func TestP27_1Right(t *testing.T) {
	for _, w := range wrongs() {
		if breach.Right(w) || breach.Worst([]api.Breach{b(api.BrFast, 3), w}) != b(0, 0) {
			t.Error(w)
		}
	}
	if !breach.Right(b(0, 0)) || !breach.Right(b(api.BrFast, 200000)) || breach.Worst(nil) != b(0, 0) {
		t.Error("right")
	}
	if w := breach.Worst([]api.Breach{b(0, 0), b(api.BrDefault, 9), b(api.BrBreach, 1), b(api.BrDefault, 7), b(api.BrDefault, 8)}); w != b(api.BrDefault, 7) {
		t.Error(w)
	}
}

func TestP27_2Next(t *testing.T) {
	for _, c := range []struct {
		b                api.Breach
		kept, grace, day int
		want             api.Breach
	}{
		{b(0, 0), F, 3, 10, b(api.BrBreach, 10)}, {b(0, 0), F, 0, 10, b(api.BrDefault, 10)}, {b(0, 0), T, 0, 10, b(0, 0)}, {b(0, 0), O, 0, 10, b(0, 0)},
		{b(api.BrBreach, 10), O, 3, 12, b(api.BrBreach, 10)}, {b(api.BrBreach, 10), F, 3, 13, b(api.BrDefault, 13)}, {b(api.BrBreach, 10), O, 3, 15, b(api.BrDefault, 15)}, {b(api.BrBreach, 10), T, 3, 13, b(0, 0)}, {b(api.BrBreach, 10), F, 3, 10, b(api.BrBreach, 10)},
		{b(api.BrDefault, 10), T, 3, 20, b(api.BrDefault, 10)}, {b(api.BrFast, 10), T, 3, 20, b(api.BrFast, 10)}, {b(api.BrBreach, 10), F, 0, 10, b(api.BrDefault, 10)},
	} {
		if got, e := breach.Next(c.b, c.kept, c.grace, c.day); got != c.want || e != api.OK {
			t.Error(c, got, e)
		}
	}
	for _, w := range wrongs() {
		if got, e := breach.Next(w, F, 3, 10); got != w || e != api.ErrArg {
			t.Error(w)
		}
	}
	x := b(api.BrBreach, 10)
	for i, c := range [][3]int{{-1, 3, 9}, {3, 3, 9}, {F, -1, 9}, {F, 1001, 9}, {F, 3, -1}, {F, 3, 200001}} {
		if got, e := breach.Next(x, c[0], c[1], c[2]); got != x || e != api.ErrArg {
			t.Error(i)
		}
	}
	if got, e := breach.Next(x, T, 3, 9); got != x || e != api.ErrEarly {
		t.Error("early")
	}
}

func TestP27_3NoticeAndWaive(t *testing.T) {
	if got, e := breach.Notice(b(api.BrDefault, 13), 14); got != b(api.BrFast, 14) || e != api.OK {
		t.Error(got, e)
	}
	for _, stage := range []int{api.BrBreach, api.BrDefault} {
		if got, e := breach.Waive(b(stage, 13), 14); got != b(0, 0) || e != api.OK {
			t.Error(got, e)
		}
	}
	for _, f := range []func(api.Breach, int) (api.Breach, api.Errno){breach.Notice, breach.Waive} {
		for _, w := range wrongs() {
			if got, e := f(w, 10); got != w || e != api.ErrArg {
				t.Error(w)
			}
		}
		for day, want := range map[int]api.Errno{-1: api.ErrArg, 200001: api.ErrArg, 12: api.ErrEarly} {
			if got, e := f(b(api.BrDefault, 13), day); got != b(api.BrDefault, 13) || e != want {
				t.Error(day, e)
			}
			if got, e := f(b(api.BrFast, 13), day); got != b(api.BrFast, 13) || e != want {
				t.Error(day, e)
			}
		}
		for _, x := range []api.Breach{b(0, 0), b(api.BrFast, 5)} {
			if got, e := f(x, 10); got != x || e != api.ErrState {
				t.Error(x, e)
			}
		}
	}
	if got, e := breach.Notice(b(api.BrBreach, 5), 10); got != b(api.BrBreach, 5) || e != api.ErrState {
		t.Error("notice of a breach")
	}
}

func TestP27_4Pure(t *testing.T) {
	l := []api.Breach{b(api.BrDefault, 9), b(api.BrBreach, 1)}
	breach.Worst(l)
	if l[0] != b(api.BrDefault, 9) || l[1] != b(api.BrBreach, 1) {
		t.Error("changed")
	}
}

// firstDefault returns the day of the default of a promise that is asked day by day; -1: there is none.
func firstDefault(kept []int, grace int) int {
	x := b(0, 0)
	for day, k := range kept {
		x, _ = breach.Next(x, k, grace, day)
		if x.Stage == api.BrDefault {
			return x.Since
		}
	}
	return -1
}

func random(r *rand.Rand) []int {
	l := make([]int, 12)
	for i := range l {
		l[i] = r.Intn(3)
	}
	return l
}

func TestP27_5Default(t *testing.T) {
	r := rand.New(rand.NewSource(1))
	for range 2000 {
		kept, grace := random(r), r.Intn(5)
		want := -1
		for day := 0; day+grace < len(kept) && want < 0; day++ {
			good := kept[day] == F
			for _, k := range kept[day : day+grace+1] {
				good = good && k != T
			}
			if good {
				want = day + grace
			}
		}
		if got := firstDefault(kept, grace); got != want {
			t.Fatal(kept, grace, got, want)
		}
	}
	x := b(api.BrDefault, 5)
	for day := 5; day < 50; day++ {
		x, _ = breach.Next(x, r.Intn(3), 2, day)
	}
	if x != b(api.BrDefault, 5) {
		t.Error("a default stays")
	}
}

func TestP27_6Later(t *testing.T) {
	r := rand.New(rand.NewSource(2))
	earlier := func(a, b int) bool { return a >= 0 && (b < 0 || a < b) }
	for range 2000 {
		kept, grace := random(r), r.Intn(5)
		day := firstDefault(kept, grace)
		if earlier(firstDefault(kept, grace+1), day) {
			t.Fatal("a longer grace")
		}
		i := r.Intn(len(kept))
		switch kept[i] {
		case F:
			kept[i] = []int{T, O}[r.Intn(2)]
		case O:
			kept[i] = T
		}
		if earlier(firstDefault(kept, grace), day) {
			t.Fatal("better news")
		}
	}
}

func TestP27_7Again(t *testing.T) {
	x, _ := breach.Waive(b(api.BrBreach, 5), 6)
	x, _ = breach.Next(x, F, 3, 8)
	if x != b(api.BrBreach, 8) {
		t.Error(x)
	}
	y := b(api.BrFast, 5)
	for day := 5; day < 20; day++ {
		for kept := range 3 {
			if z, _ := breach.Next(y, kept, 0, day); z != y {
				t.Error(z)
			}
		}
	}
}

func TestP27_2Limits(t *testing.T) {
	x, e := breach.Next(b(api.BrBreach, 199000), F, 1000, 200000)
	if x != b(api.BrDefault, 200000) || e != api.OK {
		t.Error(x, e)
	}
	for k, l := range [][]api.Breach{{b(api.BrBreach, 3), b(api.BrFast, 9), b(api.BrDefault, 1)}, {b(api.BrFast, 9), b(api.BrBreach, 3)}} {
		if w := breach.Worst(l); w != b(api.BrFast, 9) {
			t.Error(k, w)
		}
	}
}
