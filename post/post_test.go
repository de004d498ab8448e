package post_test

import (
	"math/rand"
	"slices"
	"testing"

	"consol/api"
	"consol/post"
)

func e(id int) api.Entry { return api.Entry{Id: id} }

func four() post.Way { return post.Way{Sent: []api.Entry{e(10), e(11), e(12), e(13)}} }

func ids(l []api.Entry) []int {
	var out []int
	for _, x := range l {
		out = append(out, x.Id)
	}
	return out
}

func wrongs() []post.Way {
	s := four().Sent
	return []post.Way{{Sent: s, Next: -1}, {Sent: s, Next: 5}, {Sent: s, Next: 1, Early: []int{1}}, {Sent: s, Early: []int{0}}, {Sent: s, Early: []int{2, 1}}, {Sent: s, Early: []int{2, 2}}, {Sent: s, Early: []int{4}}, {Sent: make([]api.Entry, 10001)}}
}

func same(a, b post.Way) bool {
	return slices.Equal(a.Sent, b.Sent) && a.Next == b.Next && slices.Equal(a.Early, b.Early)
}

func TestP43_1Right(t *testing.T) {
	for i, w := range wrongs() {
		if post.Right(w) || len(post.Flight(w)) != 0 || len(post.Again(w)) != 0 {
			t.Error(i)
		}
	}
	w := post.Way{Sent: four().Sent, Next: 1, Early: []int{3}}
	if !post.Right(w) || !post.Right(post.Way{}) || !post.Right(post.Way{Sent: w.Sent, Next: 4}) || !slices.Equal(ids(post.Flight(w)), []int{11, 12, 13}) || !slices.Equal(post.Again(w), []int{1, 2}) {
		t.Error("flight")
	}
}

func TestP43_2Send(t *testing.T) {
	w, no := post.Send(post.Way{Sent: []api.Entry{e(1), e(2)}, Next: 0, Early: []int{1}}, e(-7))
	if no != api.OK || !slices.Equal(ids(w.Sent), []int{1, 2, -7}) || w.Next != 0 || !slices.Equal(w.Early, []int{1}) {
		t.Error(w, no)
	}
	for i, w := range wrongs() {
		if x, no := post.Send(w, e(1)); no != api.ErrArg || !same(x, post.Way{}) {
			t.Error(i)
		}
	}
	if _, no := post.Send(post.Way{Sent: make([]api.Entry, 10000)}, e(1)); no != api.ErrFull {
		t.Error("full")
	}
}

func TestP43_3Arrive(t *testing.T) {
	w := four()
	for i, c := range []struct {
		seq  int
		want []int
		no   api.Errno
	}{{1, nil, api.OK}, {2, nil, api.OK}, {1, nil, api.ErrTwice}, {0, []int{10, 11, 12}, api.OK}, {0, nil, api.ErrTwice}, {9, nil, api.ErrNone}, {-1, nil, api.ErrNone}, {4, nil, api.ErrNone}, {3, []int{13}, api.OK}, {3, nil, api.ErrTwice}} {
		if i == 3 && (!slices.Equal(ids(post.Flight(w)), []int{10, 11, 12, 13}) || !slices.Equal(post.Again(w), []int{0, 3})) {
			t.Error("flight", post.Flight(w), post.Again(w))
		}
		if i == 8 && (!slices.Equal(ids(post.Flight(w)), []int{13}) || !slices.Equal(post.Again(w), []int{3})) {
			t.Error("flight at last")
		}
		x, got, no := post.Arrive(w, c.seq)
		if no != c.no || !slices.Equal(ids(got), c.want) || no != api.OK && !same(x, post.Way{}) {
			t.Error(i, got, no)
		}
		if no == api.OK {
			w = x
		}
	}
	if w.Next != 4 || len(w.Early) != 0 || len(post.Flight(w)) != 0 {
		t.Error(w)
	}
	for i, w := range wrongs() {
		if _, _, no := post.Arrive(w, 0); no != api.ErrArg {
			t.Error(i)
		}
	}
}

func TestP43_4Fresh(t *testing.T) {
	w := post.Way{Sent: four().Sent, Early: []int{2, 3}}
	x, got, _ := post.Arrive(w, 0)
	got[0].Id = 99
	x.Sent[1].Id, x.Early[0] = 99, 99
	y, _, _ := post.Arrive(w, 1)
	y.Early[0] = 98
	post.Flight(w)[0].Id = 97
	if !same(w, post.Way{Sent: four().Sent, Early: []int{2, 3}}) || x.Sent[0].Id != 10 {
		t.Error("shared")
	}
}

func TestP43_5Order(t *testing.T) {
	r := rand.New(rand.NewSource(1))
	for range 300 {
		var w post.Way
		var got []api.Entry
		for id := range 20 {
			w, _ = post.Send(w, e(id))
			for range r.Intn(3) {
				if x, l, no := post.Arrive(w, r.Intn(id+1)); no == api.OK {
					w = x
					got = append(got, l...)
				}
			}
			if !slices.Equal(slices.Concat(got, post.Flight(w)), w.Sent) || !post.Right(w) {
				t.Fatal(w, got)
			}
		}
	}
}

func TestP43_6Again(t *testing.T) {
	r := rand.New(rand.NewSource(2))
	for range 300 {
		w := four()
		for range r.Intn(5) {
			if x, _, no := post.Arrive(w, r.Intn(4)); no == api.OK {
				w = x
			}
		}
		for _, n := range post.Again(w) {
			w, _, _ = post.Arrive(w, n)
		}
		if w.Next != 4 {
			t.Fatal(w)
		}
		if _, _, no := post.Arrive(w, r.Intn(4)); no != api.ErrTwice {
			t.Fatal("twice")
		}
	}
}

func TestP43_7Later(t *testing.T) {
	r := rand.New(rand.NewSource(3))
	for range 300 {
		w, v := four(), four()
		v, _ = post.Send(v, e(50))
		for range r.Intn(6) {
			k := r.Intn(4)
			x, a, no := post.Arrive(w, k)
			y, b, no2 := post.Arrive(v, k)
			if no != no2 || !slices.Equal(a, b) {
				t.Fatal(k)
			}
			if no == api.OK {
				w, v = x, y
			}
		}
	}
}
