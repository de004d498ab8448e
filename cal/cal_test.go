package cal_test

import (
	"math/rand"
	"slices"
	"testing"

	"consol/api"
	"consol/cal"
)

func weekend(days ...int) api.Calendar { return api.Calendar{Rest: []int{5, 6}, Days: days} }

func many(n int) []int {
	l := make([]int, n)
	for i := range l {
		l[i] = i
	}
	return l
}

func wrongs() []api.Calendar {
	return []api.Calendar{{Rest: []int{0, 1, 2, 3, 4, 5, 6}}, {Rest: []int{1, 0}}, {Rest: []int{1, 1}}, {Rest: []int{7}}, {Rest: []int{-1}}, {Days: []int{5, 5}}, {Days: []int{-1}}, {Days: []int{200001}}, {Days: many(4001)}}
}

func TestP8_1Right(t *testing.T) {
	c := weekend(30)
	if !cal.Right(c) || !cal.Right(api.Calendar{}) || !cal.Right(api.Calendar{Rest: []int{0, 1, 2, 3, 4, 5}, Days: many(4000)}) {
		t.Error("right")
	}
	if !cal.Business(c, 0) || cal.Business(c, 5) || cal.Business(c, 30) || cal.Business(c, -1) || cal.Business(c, 200001) || !cal.Business(api.Calendar{}, 200000) {
		t.Error("business")
	}
	for _, w := range wrongs() {
		if cal.Right(w) || cal.Business(w, 10) {
			t.Error(w.Rest)
		}
	}
}

func TestP8_2Errors(t *testing.T) {
	check := func(d int, e api.Errno) {
		t.Helper()
		if d != 0 || e != api.ErrArg {
			t.Error(d, e)
		}
	}
	for _, w := range wrongs() {
		check(cal.Next(w, 7))
		check(cal.Before(w, 7))
		check(cal.Adjust(w, 7, api.AdNone))
		check(cal.Back(w, 7, 0))
	}
	for _, day := range []int{-1, 200001} {
		check(cal.Next(weekend(), day))
		check(cal.Before(weekend(), day))
		check(cal.Adjust(weekend(), day, api.AdNone))
		check(cal.Back(weekend(), day, 0))
	}
	check(cal.Adjust(weekend(), 7, -1))
	check(cal.Adjust(weekend(), 7, api.AdKinds))
	check(cal.Back(weekend(), 7, -1))
	check(cal.Back(weekend(), 7, 1001))
}

func TestP8_3Moves(t *testing.T) {
	c := weekend(30)
	for _, x := range []struct {
		day, how, want int
		e              api.Errno
	}{
		{5, api.AdNext, 7, api.OK}, {6, api.AdBefore, 4, api.OK}, {30, api.AdNext, 31, api.OK}, {30, api.AdModified, 29, api.OK},
		{30, api.AdNone, 30, api.OK}, {5, api.AdModified, 7, api.OK}, {7, api.AdModified, 7, api.OK},
	} {
		if d, e := cal.Adjust(c, x.day, x.how); d != x.want || e != x.e {
			t.Error(x, d, e)
		}
	}
	if d, _ := cal.Next(c, 5); d != 7 {
		t.Error("next")
	}
	if d, _ := cal.Before(c, 6); d != 4 {
		t.Error("before")
	}
	ends := api.Calendar{Days: []int{0, 1, 199999, 200000}}
	if d, e := cal.Before(ends, 1); d != 0 || e != api.ErrRange {
		t.Error("down to 0")
	}
	if d, e := cal.Next(ends, 199999); d != 0 || e != api.ErrRange {
		t.Error("up to the last day")
	}
	if d, e := cal.Adjust(ends, 200000, api.AdModified); d != 199998 || e != api.OK {
		t.Error("modified")
	}
	month := api.Calendar{Days: many(31)}
	if d, e := cal.Adjust(month, 3, api.AdModified); d != 0 || e != api.ErrRange {
		t.Error("a month without business days", d, e)
	}
	whole := api.Calendar{Days: many(59)[31:]}
	if d, e := cal.Adjust(whole, 40, api.AdModified); d != 30 || e != api.OK {
		t.Error("before the month", d, e)
	}
}

func TestP8_4Back(t *testing.T) {
	c := weekend(30)
	for _, x := range []struct {
		day, n, want int
		e            api.Errno
	}{{7, 1, 4, api.OK}, {32, 2, 29, api.OK}, {4, 5, 0, api.ErrRange}, {4, 4, 0, api.OK}, {5, 0, 5, api.OK}, {5, 1, 4, api.OK}, {0, 1, 0, api.ErrRange}} {
		if d, e := cal.Back(c, x.day, x.n); d != x.want || e != x.e {
			t.Error(x, d, e)
		}
	}
}

func TestP8_5Pure(t *testing.T) {
	c := weekend(30, 40)
	cal.Adjust(c, 30, api.AdModified)
	if !slices.Equal(c.Rest, []int{5, 6}) || !slices.Equal(c.Days, []int{30, 40}) {
		t.Error("changed")
	}
}

func random(r *rand.Rand) api.Calendar {
	var c api.Calendar
	for d := range 7 {
		if r.Intn(4) == 0 && len(c.Rest) < 6 {
			c.Rest = append(c.Rest, d)
		}
	}
	for d := range 100 {
		if r.Intn(3) == 0 {
			c.Days = append(c.Days, d)
		}
	}
	return c
}

func TestP8_6Nearest(t *testing.T) {
	r := rand.New(rand.NewSource(1))
	for range 300 {
		c := random(r)
		day := 20 + r.Intn(60)
		next, _ := cal.Next(c, day)
		before, _ := cal.Before(c, day)
		for d := before + 1; d < next; d++ {
			if cal.Business(c, d) && d != day {
				t.Fatal(d)
			}
		}
		if !cal.Business(c, next) || !cal.Business(c, before) {
			t.Fatal("no business day")
		}
		for how := range api.AdKinds {
			if d, _ := cal.Adjust(c, next, how); d != next {
				t.Fatal("a business day is moved")
			}
		}
	}
}

func TestP8_7Order(t *testing.T) {
	r := rand.New(rand.NewSource(2))
	for range 300 {
		c := random(r)
		day := 20 + r.Intn(60)
		for _, how := range []int{api.AdNext, api.AdBefore} {
			a, _ := cal.Adjust(c, day, how)
			b, _ := cal.Adjust(c, day+1, how)
			again, _ := cal.Adjust(c, a, how)
			if b < a || again != a {
				t.Fatal(day)
			}
		}
	}
}

func TestP8_8Counts(t *testing.T) {
	r := rand.New(rand.NewSource(3))
	for range 300 {
		c := random(r)
		day, n, m := 100+r.Intn(60), r.Intn(5), r.Intn(5)
		a, _ := cal.Back(c, day, m)
		b, e := cal.Back(c, a, n)
		both, f := cal.Back(c, day, n+m)
		if b != both || e != f {
			t.Fatal(day, n, m)
		}
		more := api.Calendar{Rest: c.Rest, Days: append(slices.Clone(c.Days), 120)}
		if d, e := cal.Back(more, day, n+m); e == api.OK && d > both {
			t.Fatal("nearer")
		}
	}
}

func TestP8_3Next(t *testing.T) {
	c := weekend(30)
	for day, want := range map[int]int{6: 7, 5: 7, 12: 14, 13: 14, 30: 29} {
		if d, e := cal.Adjust(c, day, api.AdModified); d != want || e != api.OK {
			t.Error(day, d, e)
		}
	}
	if d, e := cal.Back(api.Calendar{}, 1000, 1000); d != 0 || e != api.OK {
		t.Error("1000 business days", d, e)
	}
}
