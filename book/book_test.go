package book_test

import (
	"math/rand"
	"slices"
	"testing"

	"consol/api"
	"consol/book"
)

func seats(parents ...int) []api.Seat {
	var l []api.Seat
	for _, p := range parents {
		l = append(l, api.Seat{Parent: p, Owner: -1})
	}
	return l
}

func example() []api.Seat { return seats(-1, 0, 0, 1, -1) }

func units() []int { return []int{0, 0, 5, 7, 2} }

func wrongSeats() [][]api.Seat {
	return [][]api.Seat{seats(-2), seats(0), seats(-1, 1), seats(-1, 2), {{Parent: -1, Owner: -2}}, {{Parent: -1, Owner: 60}}, seats(-1, 0, 1, 2, 3, 4), slices.Repeat(seats(-1), 20001)}
}

func TestP30_1Seats(t *testing.T) {
	for i, w := range wrongSeats() {
		if book.Right(w) || book.Level(w, 0) != -1 || book.Root(w, 0) != -1 || book.Leaf(w, len(w)-1) {
			t.Error(i)
		}
	}
	if !book.Right(example()) || !book.Right(nil) || !book.Right(seats(-1, 0, 1, 2, 3)) || !book.Right(slices.Repeat(seats(-1), 20000)) {
		t.Error("right")
	}
	for seat, want := range [][2]int{{0, 0}, {1, 0}, {1, 0}, {2, 0}, {0, 4}} {
		if book.Level(example(), seat) != want[0] || book.Root(example(), seat) != want[1] || book.Leaf(example(), seat) != (seat > 1) {
			t.Error(seat)
		}
	}
	for _, seat := range []int{-1, 5} {
		if book.Level(example(), seat) != -1 || book.Root(example(), seat) != -1 || book.Leaf(example(), seat) {
			t.Error(seat)
		}
	}
}

func wrongUnits() [][]int {
	return [][]int{nil, {0, 0, 5, 7}, {1, 0, 5, 7, 2}, {0, 1, 5, 7, 2}, {0, 0, -5, 7, 2}, {0, 0, 0, 0, api.MaxUnits + 1}, {0, 0, 0, 1, api.MaxUnits}}
}

func TestP30_2Held(t *testing.T) {
	for seat, want := range []int{12, 7, 5, 7, 2} {
		if n := book.Held(example(), units(), seat); n != want {
			t.Error(seat, n)
		}
	}
	for _, seat := range []int{-1, 5} {
		if book.Held(example(), units(), seat) != 0 {
			t.Error(seat)
		}
	}
	for i, w := range wrongUnits() {
		if book.Held(example(), w, 3) != 0 {
			t.Error(i)
		}
	}
	if book.Held(seats(1, -1), []int{5, 0}, 0) != 0 || book.Held(seats(-1), []int{api.MaxUnits}, 0) != api.MaxUnits {
		t.Error("seats")
	}
}

func TestP30_3Move(t *testing.T) {
	if l, e := book.Move(example(), units(), 3, 4, 3); !slices.Equal(l, []int{0, 0, 5, 4, 5}) || e != api.OK {
		t.Error(l, e)
	}
	if l, e := book.Move(example(), units(), 3, 3, 7); !slices.Equal(l, units()) || e != api.OK {
		t.Error("to itself", l, e)
	}
	for i, c := range []struct {
		from, to, n int
		want        api.Errno
	}{{1, 4, 1, api.ErrNone}, {4, 0, 1, api.ErrNone}, {3, 4, 8, api.ErrFew}, {3, 4, 0, api.ErrArg}, {3, 9, 1, api.ErrNone}, {-1, 3, 1, api.ErrNone}, {1, 9, -1, api.ErrArg}, {3, 9, 99, api.ErrNone}} {
		if l, e := book.Move(example(), units(), c.from, c.to, c.n); len(l) != 0 || e != c.want {
			t.Error(i, e)
		}
	}
	for i, w := range wrongUnits() {
		if _, e := book.Move(example(), w, 3, 4, 1); e != api.ErrArg {
			t.Error(i)
		}
	}
	for i, w := range wrongSeats() {
		if _, e := book.Move(w, make([]int, len(w)), 0, 0, 1); e != api.ErrArg {
			t.Error(i)
		}
	}
}

func TestP30_4Fresh(t *testing.T) {
	u := units()
	l, _ := book.Move(example(), u, 3, 4, 3)
	l[2] = 99
	if !slices.Equal(u, units()) {
		t.Error("changed")
	}
}

func random(r *rand.Rand) ([]api.Seat, []int) {
	var l []api.Seat
	for i := range 1 + r.Intn(9) {
		p := r.Intn(i+1) - 1
		if p >= 0 && book.Level(l, p) == 4 {
			p = -1
		}
		l = append(l, api.Seat{Parent: p, Owner: -1})
	}
	u := make([]int, len(l))
	for i := range u {
		if book.Leaf(l, i) {
			u[i] = r.Intn(10)
		}
	}
	return l, u
}

func TestP30_5Levels(t *testing.T) {
	r := rand.New(rand.NewSource(1))
	for range 500 {
		l, u := random(r)
		roots, all := 0, 0
		for i := range l {
			sum := u[i]
			for k := range l {
				if l[k].Parent == i {
					sum += book.Held(l, u, k)
				}
			}
			if book.Held(l, u, i) != sum {
				t.Fatal(l, u)
			}
			if l[i].Parent == -1 {
				roots += sum
			}
			all += u[i]
		}
		if roots != all {
			t.Fatal(l, u)
		}
	}
}

func above(l []api.Seat, seat, i int) bool {
	for ; seat >= 0; seat = l[seat].Parent {
		if seat == i {
			return true
		}
	}
	return false
}

func TestP30_6Moves(t *testing.T) {
	r := rand.New(rand.NewSource(2))
	for range 500 {
		l, u := random(r)
		from, to := r.Intn(len(l)), r.Intn(len(l))
		m, e := book.Move(l, u, from, to, 2)
		if e != api.OK {
			continue
		}
		for i := range l {
			want := book.Held(l, u, i)
			if above(l, from, i) {
				want -= 2
			}
			if above(l, to, i) {
				want += 2
			}
			if book.Held(l, m, i) != want {
				t.Fatal(l, u, m)
			}
		}
		if back, _ := book.Move(l, m, to, from, 2); !slices.Equal(back, u) {
			t.Fatal("back")
		}
		one, _ := book.Move(l, u, from, to, 1)
		if two, _ := book.Move(l, one, from, to, 1); !slices.Equal(two, m) {
			t.Fatal("add up")
		}
	}
}

func TestP30_7Parents(t *testing.T) {
	r := rand.New(rand.NewSource(3))
	for range 300 {
		l, _ := random(r)
		for i, s := range l {
			if book.Level(l, i) > 4 || s.Parent >= 0 && (book.Level(l, i) != book.Level(l, s.Parent)+1 || book.Root(l, i) != book.Root(l, s.Parent)) {
				t.Fatal(l)
			}
		}
	}
}

func TestP30_3First(t *testing.T) {
	if l, e := book.Move(seats(-1, -1), []int{5, 0}, 0, 1, 5); !slices.Equal(l, []int{0, 5}) || e != api.OK {
		t.Error("the seat 0", l, e)
	}
	if !book.Leaf(seats(-1), 0) || book.Root(seats(-1, 0), 0) != 0 {
		t.Error("leaf")
	}
}
