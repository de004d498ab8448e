package seal_test

import (
	"math/rand"
	"slices"
	"testing"

	"consol/api"
	"consol/seal"
)

func sealed(key int, text string) api.Sealed { return api.Sealed{Key: key, Text: text} }

func signed(key int, text string, mark int) api.Signed {
	return api.Signed{Key: key, Text: text, Mark: mark}
}

func TestP44_1Open(t *testing.T) {
	if len(seal.New().All()) != 0 || seal.New().Valid(api.Signed{}) {
		t.Error("new")
	}
	l := []api.Sealed{sealed(3, "a"), sealed(199, "a"), sealed(3, "")}
	r, e := seal.Open(l)
	if e != api.OK || !slices.Equal(r.All(), l) || r.Sign(3, "").Mark != 2 || r.Sign(0, "new").Mark != 3 {
		t.Error(e)
	}
	for i, c := range []struct {
		l    []api.Sealed
		want api.Errno
	}{{[]api.Sealed{sealed(-1, "a")}, api.ErrArg}, {[]api.Sealed{sealed(200, "a")}, api.ErrArg}, {[]api.Sealed{sealed(1, "a"), sealed(1, "a")}, api.ErrTwice}, {[]api.Sealed{sealed(1, "a"), sealed(1, "a"), sealed(-1, "")}, api.ErrArg}} {
		if r, e := seal.Open(c.l); r != nil || e != c.want {
			t.Error(i, e)
		}
	}
}

func TestP44_2Sign(t *testing.T) {
	r := seal.New()
	for i, c := range []api.Signed{signed(3, "a", 0), signed(4, "a", 1), signed(3, "a", 0)} {
		if s := r.Sign(c.Key, c.Text); s != c {
			t.Error(i, s)
		}
	}
	for _, key := range []int{-1, 200} {
		if s := r.Sign(key, "a"); s != (api.Signed{}) || len(r.All()) != 2 {
			t.Error(key)
		}
	}
	for i, c := range []struct {
		s    api.Signed
		want bool
	}{{signed(3, "a", 0), true}, {signed(3, "a", 1), false}, {signed(3, "b", 0), false}, {signed(4, "a", 1), true}, {signed(3, "a", -1), false}, {signed(3, "a", 99), false}, {signed(-1, "a", 0), false}} {
		if r.Valid(c.s) != c.want {
			t.Error(i)
		}
	}
}

func TestP44_3Copy(t *testing.T) {
	r := seal.New()
	r.Sign(3, "a")
	c := r.Copy()
	c.Sign(4, "b")
	r.Sign(5, "c")
	if !slices.Equal(r.All(), []api.Sealed{sealed(3, "a"), sealed(5, "c")}) || !slices.Equal(c.All(), []api.Sealed{sealed(3, "a"), sealed(4, "b")}) || r.Valid(signed(4, "b", 1)) {
		t.Error("copy")
	}
}

func TestP44_4Fresh(t *testing.T) {
	l := []api.Sealed{sealed(3, "a")}
	r, _ := seal.Open(l)
	l[0].Text = "x"
	r.All()[0].Text = "y"
	if !r.Valid(signed(3, "a", 0)) || r.All()[0].Text != "a" {
		t.Error("shared")
	}
}

func TestP44_5Exactly(t *testing.T) {
	random := rand.New(rand.NewSource(1))
	r := seal.New()
	made := map[api.Signed]bool{}
	texts := []string{"", "a", "b", "ab"}
	for range 300 {
		if random.Intn(20) == 0 {
			made[r.Sign(random.Intn(4), texts[random.Intn(4)])] = true
		}
		s := signed(random.Intn(4), texts[random.Intn(4)], random.Intn(12))
		if r.Valid(s) != made[s] {
			t.Fatal(s)
		}
	}
}

func TestP44_6Again(t *testing.T) {
	r := seal.New()
	var all []api.Signed
	for i, text := range []string{"a", "b", "c"} {
		s := r.Sign(7, text)
		if s.Mark != i {
			t.Error(s)
		}
		all = append(all, s)
		for _, x := range all {
			if r.Sign(x.Key, x.Text) != x || !r.Valid(x) || len(r.All()) != i+1 {
				t.Error(x)
			}
		}
	}
}
