package date_test

import (
	"math"
	"testing"
	"time"

	"consol/api"
	"consol/date"
)

func TestP7_1Months(t *testing.T) {
	for y, want := range map[int]bool{1900: false, 2000: true, 2004: true, 2001: false, 0: true, -4: true, -100: false, -400: true, math.MinInt: true} {
		if date.Leap(y) != want {
			t.Error(y)
		}
	}
	for m, want := range []int{0, 31, 28, 31, 30, 31, 30, 31, 31, 30, 31, 30, 31, 0} {
		if date.Last(1900, m) != want {
			t.Error(m)
		}
	}
	if date.Last(2000, 2) != 29 || date.Last(2000, -1) != 0 || date.Last(2000, math.MaxInt) != 0 {
		t.Error("last")
	}
}

func TestP7_2Of(t *testing.T) {
	for _, c := range []struct {
		y, m, d, day int
		e            api.Errno
	}{
		{1900, 1, 1, 0, api.OK}, {1900, 2, 29, 0, api.ErrDate}, {2000, 2, 29, 36583, api.OK}, {1899, 12, 31, 0, api.ErrRange},
		{2000, 13, 1, 0, api.ErrDate}, {2000, 0, 1, 0, api.ErrDate}, {2000, 1, 0, 0, api.ErrDate}, {2000, 4, 31, 0, api.ErrDate},
		{math.MaxInt, 1, 1, 0, api.ErrRange}, {math.MinInt, 1, 1, 0, api.ErrRange}, {-3, 2, 29, 0, api.ErrDate},
	} {
		if day, e := date.Of(c.y, c.m, c.d); day != c.day || e != c.e {
			t.Error(c, day, e)
		}
	}
	y, m, d, _ := date.Parts(api.MaxDay)
	if day, e := date.Of(y, m, d); day != api.MaxDay || e != api.OK {
		t.Error("last day")
	}
	if _, e := date.Of(y, m, d+1); e != api.ErrRange {
		t.Error("after it", y, m, d)
	}
	if y, m, d, e := date.Parts(59); y != 1900 || m != 3 || d != 1 || e != api.OK {
		t.Error(y, m, d)
	}
	for _, day := range []int{-1, api.MaxDay + 1, math.MinInt} {
		if y, m, d, e := date.Parts(day); y+m+d != 0 || e != api.ErrRange {
			t.Error(day)
		}
	}
}

func TestP7_3Weekday(t *testing.T) {
	if date.Weekday(0) != 0 || date.Weekday(59) != 3 || date.Weekday(6) != 6 || date.Weekday(-1) != -1 || date.Weekday(api.MaxDay+1) != -1 {
		t.Error("weekday")
	}
}

func TestP7_4AddMonths(t *testing.T) {
	for _, c := range []struct {
		day, n, want int
		e            api.Errno
	}{
		{30, 1, 58, api.OK}, {58, -1, 27, api.OK}, {30, 2, 89, api.OK}, {0, -1, 0, api.ErrRange}, {-1, 0, 0, api.ErrRange},
		{200001, 0, 0, api.ErrRange}, {0, 10001, 0, api.ErrRange}, {0, -10001, 0, api.ErrRange}, {0, 10000, 0, api.ErrRange}, {0, 12, 365, api.OK},
		{200000, 1, 0, api.ErrRange}, {200000, -10000, 0, api.ErrRange}, {0, math.MaxInt, 0, api.ErrRange},
	} {
		if day, e := date.AddMonths(c.day, c.n); day != c.want || e != c.e {
			t.Error(c, day, e)
		}
	}
}

func TestP7_5Text(t *testing.T) {
	if date.Text(36583) != "2000-02-29" || date.Text(-1) != "" || date.Text(200001) != "" || date.Text(0) != "1900-01-01" {
		t.Error(date.Text(36583))
	}
	for s, want := range map[string]api.Errno{"1900-13-01": api.ErrDate, "1900-1-01": api.ErrForm, "": api.ErrForm, "1900-01-011": api.ErrForm, "1900/01/01": api.ErrForm, "19000-1-01": api.ErrForm, "+900-01-01": api.ErrForm, "1899-12-31": api.ErrRange, "9999-12-31": api.ErrRange, "2001-02-29": api.ErrDate, "0000-00-00": api.ErrDate, "1900-01--1": api.ErrForm} {
		if day, e := date.Read(s); day != 0 || e != want {
			t.Error(s, e)
		}
	}
}

func TestP7_6Pure(t *testing.T) {
	for range 2 {
		if date.Text(36583) != "2000-02-29" {
			t.Error("pure")
		}
	}
}

func TestP7_7Every(t *testing.T) {
	at := time.Date(1900, 1, 1, 0, 0, 0, 0, time.UTC)
	for day := range api.MaxDay + 1 {
		y, m, d, e := date.Parts(day)
		if e != api.OK || y != at.Year() || m != int(at.Month()) || d != at.Day() {
			t.Fatal(day, y, m, d)
		}
		if back, e := date.Of(y, m, d); back != day || e != api.OK {
			t.Fatal(day, back)
		}
		at = at.AddDate(0, 0, 1)
	}
}

func TestP7_8Months(t *testing.T) {
	for day := 36500; day < 36900; day++ {
		_, _, d, _ := date.Parts(day)
		for n := -30; n < 30; n += 7 {
			one, _ := date.AddMonths(day, n)
			next, _ := date.AddMonths(day+1, n)
			if next < one {
				t.Fatal("order")
			}
			if d > 28 {
				continue
			}
			two, _ := date.AddMonths(one, 5)
			both, _ := date.AddMonths(day, n+5)
			back, _ := date.AddMonths(one, -n)
			if two != both || back != day {
				t.Fatal(day, n)
			}
		}
	}
}

func TestP7_9Texts(t *testing.T) {
	before := ""
	for day := 0; day <= api.MaxDay; day += 13 {
		s := date.Text(day)
		if s <= before {
			t.Fatal(s)
		}
		before = s
		if back, e := date.Read(s); back != day || e != api.OK {
			t.Fatal(s)
		}
	}
}

func TestP7_3Week(t *testing.T) {
	at := time.Date(1900, 1, 1, 0, 0, 0, 0, time.UTC)
	for day := range 1000 {
		if date.Weekday(day) != (int(at.AddDate(0, 0, day).Weekday())+6)%7 {
			t.Fatal(day)
		}
	}
}
