package linear_test

import (
	"math/rand"
	"strings"
	"testing"
	"time"

	"consol/api"
	"consol/big"
	"consol/frac"
	"consol/linear"
)

func f(p, q int) api.Frac {
	x, _ := frac.Of(p, q)
	return x
}

// rows makes a system of integers; the last one of each row is its Value.
func rows(l ...[]int) []api.Row {
	var out []api.Row
	for _, r := range l {
		var row api.Row
		for _, n := range r[:len(r)-1] {
			row.A = append(row.A, f(n, 1))
		}
		row.Value = f(r[len(r)-1], 1)
		out = append(out, row)
	}
	return out
}

func text(l []api.Frac) string {
	var s []string
	for _, x := range l {
		s = append(s, frac.Text(x))
	}
	return strings.Join(s, " ")
}

func huge() api.Frac {
	n, _ := big.Read("1" + strings.Repeat("0", 300))
	q, _ := big.Read("1" + strings.Repeat("0", 199) + "1")
	x, _ := frac.New(n, q)
	return x
}

func TestP6_1Right(t *testing.T) {
	if !linear.Right(nil, 0) || !linear.Right(rows([]int{1, 2}), 1) || linear.Right(nil, 1) || linear.Right(nil, -1) || linear.Right(rows([]int{1, 2}), 0) || linear.Right(rows([]int{1, 2, 3}), 1) {
		t.Error("right")
	}
	bad := rows([]int{1, 2})
	bad[0].Value = api.Frac{}
	worse := rows([]int{1, 2})
	worse[0].A[0] = api.Frac{}
	if linear.Right(bad, 1) || linear.Right(worse, 1) {
		t.Error("fractions")
	}
	wide := make([]api.Row, 41)
	for i := range wide {
		wide[i].Value = f(0, 1)
		for range 41 {
			wide[i].A = append(wide[i].A, f(1, 1))
		}
	}
	if linear.Right(wide, 41) {
		t.Error("too many")
	}
}

func TestP6_2Solve(t *testing.T) {
	for _, c := range []struct {
		rows []api.Row
		want string
		e    api.Errno
	}{
		{rows([]int{2, 1}), "1/2", api.OK},
		{rows([]int{1, 1, 3}, []int{1, -1, 1}), "2/1 1/1", api.OK},
		{rows([]int{0, 1, 3}, []int{2, 0, 1}), "1/2 3/1", api.OK},
		{rows([]int{1, 2, 1}, []int{2, 4, 5}), "", api.ErrSingular},
		{nil, "", api.OK},
	} {
		x, e := linear.Solve(c.rows, len(c.rows))
		if text(x) != c.want || e != c.e {
			t.Error(text(x), e)
		}
	}
	if x, e := linear.Solve(nil, 1); len(x) != 0 || e != api.ErrArg {
		t.Error("arg")
	}
	full := rows([]int{1, 1, 1}, []int{1, 0, 1})
	full[0].A[1], full[1].A[1] = huge(), huge()
	full[1].A[0] = huge()
	if x, e := linear.Solve(full, 2); len(x) != 0 || e != api.ErrFull {
		t.Error("full", e)
	}
	// The first column is free before anything fails.
	late := rows([]int{0, 1, 1}, []int{0, 1, 1})
	late[0].A[1] = huge()
	if _, e := linear.Solve(late, 2); e != api.ErrSingular {
		t.Error("singular first", e)
	}
}

func TestP6_3Check(t *testing.T) {
	r := rows([]int{1, 1, 3}, []int{1, -1, 1})
	if !linear.Check(r, 2, []api.Frac{f(2, 1), f(1, 1)}) || linear.Check(r, 2, []api.Frac{f(2, 1), f(2, 1)}) || linear.Check(r, 2, []api.Frac{f(2, 1)}) || linear.Check(r, 2, []api.Frac{f(2, 1), {}}) || linear.Check(r, 1, nil) || !linear.Check(nil, 0, nil) {
		t.Error("check")
	}
	full := rows([]int{1, 0})
	full[0].A[0] = huge()
	if linear.Check(full, 1, []api.Frac{huge()}) {
		t.Error("full")
	}
}

func TestP6_4Kernel(t *testing.T) {
	if k, ok := linear.Kernel(rows([]int{1, 2, 1}, []int{2, 4, 5}), 2); text(k) != "-2/1 1/1" || !ok {
		t.Error(text(k))
	}
	if k, ok := linear.Kernel(rows([]int{0, 1, 1}, []int{0, 4, 5}), 2); text(k) != "1/1 0/1" || !ok {
		t.Error(text(k))
	}
	if k, ok := linear.Kernel(rows([]int{1, 1}), 1); len(k) != 0 || ok {
		t.Error("none is free")
	}
	if k, ok := linear.Kernel(rows([]int{1, 1}), 2); len(k) != 0 || ok {
		t.Error("no system")
	}
}

func TestP6_5Rank(t *testing.T) {
	for _, c := range []struct {
		rows []api.Row
		want int
	}{{nil, 0}, {rows([]int{1, 2, 1}, []int{2, 4, 5}), 1}, {rows([]int{0, 1, 1}, []int{0, 0, 5}), 1}, {rows([]int{0, 1, 1}, []int{1, 0, 5}), 2}, {rows([]int{0, 0, 1}, []int{0, 0, 5}), 0}, {rows([]int{1, 1, 1, 0}, []int{2, 2, 3, 0}, []int{0, 0, 5, 0}), 2}} {
		if n, e := linear.Rank(c.rows, len(c.rows)); n != c.want || e != api.OK {
			t.Error(n, e)
		}
	}
	if _, e := linear.Rank(nil, 1); e != api.ErrArg {
		t.Error("arg")
	}
	full := rows([]int{1, 0})
	full[0].A[0], full[0].Value = huge(), huge()
	if n, e := linear.Rank(full, 1); n != 0 || e != api.ErrFull {
		t.Error("full")
	}
}

func TestP6_6Pure(t *testing.T) {
	r := rows([]int{0, 1, 3}, []int{1, 0, 7})
	x, _ := linear.Solve(r, 2)
	for i := range x {
		x[i].P.Digits[0] = 9
	}
	if text(r[0].A) != "0/1 1/1" || frac.Text(r[0].Value) != "3/1" || frac.Text(r[1].Value) != "7/1" {
		t.Error("changed")
	}
}

func randomRows(r *rand.Rand, n int) []api.Row {
	l := make([]api.Row, n)
	for i := range l {
		l[i].Value = f(r.Intn(9)-4, 1+r.Intn(3))
		for range n {
			l[i].A = append(l[i].A, f(r.Intn(5)-2, 1+r.Intn(2)))
		}
	}
	return l
}

func TestP6_7Theorem(t *testing.T) {
	r := rand.New(rand.NewSource(1))
	solved, free := 0, 0
	for range 400 {
		n := 1 + r.Intn(4)
		l := randomRows(r, n)
		x, e := linear.Solve(l, n)
		k, ok := linear.Kernel(l, n)
		if (e == api.OK) == ok || e != api.OK && e != api.ErrSingular {
			t.Fatal(e, ok)
		}
		if e == api.OK {
			solved++
			if !linear.Check(l, n, x) {
				t.Fatal("check")
			}
			continue
		}
		free++
		for i := range l {
			l[i].Value = f(0, 1)
		}
		if !linear.Check(l, n, k) || !strings.ContainsAny(text(k), "123456789") {
			t.Fatal("kernel")
		}
	}
	if solved == 0 || free == 0 {
		t.Error(solved, free)
	}
}

func TestP6_8Linear(t *testing.T) {
	r := rand.New(rand.NewSource(2))
	for range 200 {
		n := 2 + r.Intn(3)
		l := randomRows(r, n)
		x, e := linear.Solve(l, n)
		if e != api.OK {
			continue
		}
		m := randomRows(r, n)
		both := make([]api.Row, n)
		for i := range m {
			m[i].A = l[i].A
			v, _ := frac.Add(l[i].Value, m[i].Value)
			both[i] = api.Row{A: l[i].A, Value: v}
		}
		y, _ := linear.Solve(m, n)
		z, _ := linear.Solve(both, n)
		for i := range z {
			if s, _ := frac.Add(x[i], y[i]); frac.Compare(s, z[i]) != 0 {
				t.Fatal("sum")
			}
		}
		l[0], l[1] = l[1], l[0]
		if y, _ := linear.Solve(l, n); text(x) != text(y) {
			t.Fatal("order")
		}
	}
}

func TestP6_9Rank(t *testing.T) {
	r := rand.New(rand.NewSource(3))
	for range 300 {
		n := 1 + r.Intn(4)
		l := randomRows(r, n)
		_, e := linear.Solve(l, n)
		if k, _ := linear.Rank(l, n); (k == n) != (e == api.OK) {
			t.Fatal(k, e)
		}
	}
}

func TestP6_2Large(t *testing.T) {
	r := rand.New(rand.NewSource(4))
	l := randomRows(r, 40)
	start := time.Now()
	linear.Solve(l, 40)
	t.Log(time.Since(start))
}

func TestP6_1Limits(t *testing.T) {
	var l []api.Row
	for i := range 40 {
		row := api.Row{Value: f(i, 1)}
		for k := range 40 {
			row.A = append(row.A, f(min(1, max(0, 1+i-k)*max(0, 1+k-i)), 1))
		}
		l = append(l, row)
	}
	x, e := linear.Solve(l, 40)
	if !linear.Right(l, 40) || e != api.OK || text(x[39:]) != "39/1" || !linear.Check(l, 40, x) {
		t.Error("40 unknowns", e)
	}
	if n, e := linear.Rank(l, 40); n != 40 || e != api.OK {
		t.Error("rank")
	}
	if n, e := linear.Rank(nil, 41); n != 0 || e != api.ErrArg {
		t.Error("no system")
	}
}
