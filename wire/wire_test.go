package wire_test

import (
	"math"
	"slices"
	"strings"
	"testing"

	"consol/wire"
)

func TestP1_1Write(t *testing.T) {
	for _, c := range []struct{ got, want string }{
		{wire.Num(0), "0;"}, {wire.Num(300), "300;"}, {wire.Num(-1), ""}, {wire.Num(math.MinInt), ""},
		{wire.Int(-7), "-7;"}, {wire.Int(7), "7;"}, {wire.Int(math.MinInt), "-9223372036854775808;"},
		{wire.Text("a,b"), "3:a,b,"}, {wire.Text(""), "0:,"},
		{wire.Nums([]int{1, -1}), "2[1;-1;]"}, {wire.Nums(nil), "0[]"}, {wire.Texts(nil), "0[]"}, {wire.Texts([]string{"", "x,"}), "2[0:,2:x,,]"},
	} {
		if c.got != c.want {
			t.Errorf("got %q, want %q", c.got, c.want)
		}
	}
}

func TestP1_2Read(t *testing.T) {
	r := wire.Open("12;-3;2:a;,2[1;2;]1[1:x,]rest")
	if r.Num() != 12 || r.Int() != -3 || r.Text() != "a;" || !slices.Equal(r.Nums(), []int{1, 2}) || !slices.Equal(r.Texts(), []string{"x"}) {
		t.Error("values")
	}
	if r.Left() != 4 || r.Done() || r.Rest() != "rest" || !r.Done() || r.Left() != 0 || r.Rest() != "" {
		t.Error("end")
	}
}

func TestP1_2Fail(t *testing.T) {
	for _, s := range []string{"007;", "-0;", "+1;", "", ";", "1 ", "9223372036854775808;", "-9223372036854775809;", "1_0;", "1,", strings.Repeat("1", 40) + ";"} {
		r := wire.Open(s + "1;")
		if s != "" && (r.Int() != 0 || r.Done() || r.Left() != 0 || r.Int() != 0 || r.Rest() != "" || r.Text() != "" || len(r.Nums()) != 0 || len(r.Texts()) != 0) {
			t.Errorf("int of %q", s)
		}
	}
	if r := wire.Open("-1;"); r.Num() != 0 || r.Done() {
		t.Error("a negative number")
	}
	for _, s := range []string{"1:ab,", "2:a,", "01:a,", "-1:,", "1:a", "9223372036854775807:a,"} {
		if r := wire.Open(s); r.Text() != "" || r.Done() || r.Left() != 0 {
			t.Errorf("text of %q", s)
		}
	}
	for _, s := range []string{"1[1;", "1[]", "0[1;]", "2[1;]", "-1[]", "9223372036854775807[1;]"} {
		if r := wire.Open(s); len(r.Nums()) != 0 || r.Done() {
			t.Errorf("nums of %q", s)
		}
	}
	if r := wire.Open("2[1:a,1:b;]"); len(r.Texts()) != 0 || r.Done() {
		t.Error("texts")
	}
}

func TestP1_3Fresh(t *testing.T) {
	l := []int{5, 6}
	wire.Nums(l)
	a, b := wire.Open("1[1;]"), wire.Open("1[1;]")
	x, y := a.Nums(), b.Nums()
	x[0] = 9
	if y[0] != 1 || l[0] != 5 {
		t.Error("shared")
	}
}

func TestP1_4Inverse(t *testing.T) {
	for _, n := range []int{0, 1, -1, 10, math.MaxInt, math.MinInt} {
		if r := wire.Open(wire.Int(n)); r.Int() != n || !r.Done() {
			t.Error(n)
		}
		for _, m := range []int{0, 1, 100, -10, math.MaxInt} {
			if m != n && strings.HasPrefix(wire.Int(m), wire.Int(n)) {
				t.Error("prefix", n, m)
			}
		}
	}
	for _, s := range []string{"", "a", "1:a,", "\x00\xff"} {
		if r := wire.Open(wire.Text(s)); r.Text() != s || !r.Done() {
			t.Errorf("%q", s)
		}
	}
}

func TestP1_5Nested(t *testing.T) {
	inner := wire.Text("a]") + wire.Nums([]int{1}) + wire.Int(-4)
	outer := wire.Texts([]string{inner, "", inner}) + wire.Num(3)
	r := wire.Open(outer)
	l := r.Texts()
	if !slices.Equal(l, []string{inner, "", inner}) || r.Num() != 3 || !r.Done() {
		t.Fatal(l)
	}
	in := wire.Open(l[2])
	if in.Text() != "a]" || !slices.Equal(in.Nums(), []int{1}) || in.Int() != -4 || !in.Done() {
		t.Error("inner")
	}
}
