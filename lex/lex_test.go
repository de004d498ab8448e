package lex_test

import (
	"math/rand"
	"slices"
	"strings"
	"testing"

	"consol/api"
	"consol/lex"
)

func TestP11_1Lex(t *testing.T) {
	l, at, e := lex.Lex("x == 12a")
	want := []api.Token{{Kind: api.TkWord, Text: "x"}, {Kind: api.TkSign, Text: "==", Pos: 2}, {Kind: api.TkNumber, Text: "12", N: 12, Pos: 5}, {Kind: api.TkWord, Text: "a", Pos: 7}, {Kind: api.TkEnd, Pos: 8}}
	if !slices.Equal(l, want) || at != 0 || e != api.OK {
		t.Error(l, at, e)
	}
	l, _, _ = lex.Lex("===;,<+-*/()=\t\n 0")
	if lex.Text(l) != "== = ; , < + - * / ( ) = 0" || len(l) != 14 {
		t.Error(lex.Text(l))
	}
	for s, x := range map[string]struct {
		at int
		e  api.Errno
	}{
		"a1==007": {4, api.ErrRange}, "a :": {2, api.ErrToken}, "A": {0, api.ErrToken}, "a\r": {1, api.ErrToken}, "\xff": {0, api.ErrToken},
		strings.Repeat("a", 21): {0, api.ErrName}, " 1000000000000001": {1, api.ErrRange}, "1 00": {2, api.ErrRange}, strings.Repeat("9", 99): {0, api.ErrRange},
		strings.Repeat(" ", 4001): {0, api.ErrFull}, "a : 007": {2, api.ErrToken}, "007 :": {0, api.ErrRange}, "a_b": {1, api.ErrToken},
	} {
		if l, at, e := lex.Lex(s); len(l) != 0 || at != x.at || e != x.e {
			t.Errorf("%q %d %d", s, at, e)
		}
	}
	for _, s := range []string{"", strings.Repeat(" ", 4000)} {
		if l, _, e := lex.Lex(s); e != api.OK || !slices.Equal(l, []api.Token{{Kind: api.TkEnd, Pos: len(s)}}) {
			t.Error(l)
		}
	}
	if l, _, e := lex.Lex("1000000000000000"); e != api.OK || l[0].N != api.MaxNumber {
		t.Error("limit")
	}
}

func TestP11_2Text(t *testing.T) {
	l, _, _ := lex.Lex("a=b ;")
	if lex.Text(l) != "a = b ;" || lex.Text(nil) != "" {
		t.Error(lex.Text(l))
	}
	if s := lex.Text([]api.Token{{Kind: 77, Text: "?"}, {Kind: api.TkEnd, Text: "no"}, {Kind: -1}, {Text: "z"}}); s != "?  z" {
		t.Errorf("%q", s)
	}
}

func TestP11_3Words(t *testing.T) {
	for s, want := range map[string]bool{"a1": true, "1a": false, "": false, "a b": false, "aB": false, strings.Repeat("a", 20): true, strings.Repeat("a", 21): false} {
		if lex.Word(s) != want {
			t.Error(s)
		}
	}
	for s, want := range map[string]int{"12": 12, "0": 0, "1000000000000000": api.MaxNumber} {
		if n, ok := lex.Number(s); n != want || !ok {
			t.Error(s)
		}
	}
	for _, s := range []string{"012", "", "-1", "+1", "1000000000000001", "1_0", "99999999999999999999", "00", "1 "} {
		if n, ok := lex.Number(s); n != 0 || ok {
			t.Error(s)
		}
	}
}

func TestP11_4Fresh(t *testing.T) {
	a, _, _ := lex.Lex("a b")
	b, _, _ := lex.Lex("a b")
	a[0].Text = "x"
	if b[0].Text != "a" {
		t.Error("shared")
	}
}

func random(r *rand.Rand) string {
	parts := []string{"a", "bc1", " ", "0", "12", "==", "=", ";", "<", "\n", "(", ")", "-"}
	s := ""
	for range r.Intn(20) {
		s += parts[r.Intn(len(parts))]
	}
	return s
}

func TestP11_5Again(t *testing.T) {
	r := rand.New(rand.NewSource(1))
	for range 500 {
		l, _, e := lex.Lex(random(r))
		if e != api.OK {
			continue
		}
		m, _, e := lex.Lex(lex.Text(l))
		if e != api.OK || lex.Text(m) != lex.Text(l) || len(l) != len(m) {
			t.Fatal(lex.Text(l))
		}
		for i := range l {
			l[i].Pos, m[i].Pos = 0, 0
		}
		if !slices.Equal(l, m) {
			t.Fatal(l)
		}
	}
}

func TestP11_6Order(t *testing.T) {
	r := rand.New(rand.NewSource(2))
	for range 500 {
		s, u := random(r), random(r)
		l, at, e := lex.Lex(s)
		if e != api.OK {
			if _, _, e := lex.Lex(s[:at]); e != api.OK {
				t.Fatal(s)
			}
			continue
		}
		bytes := 0
		for _, x := range l {
			bytes += len(x.Text)
		}
		if bytes != len(strings.NewReplacer(" ", "", "\n", "").Replace(s)) {
			t.Fatal(s)
		}
		m, _, e := lex.Lex(u)
		if e != api.OK {
			continue
		}
		for i := range m {
			m[i].Pos += len(s) + 1
		}
		if both, _, _ := lex.Lex(s + " " + u); !slices.Equal(both, append(slices.Clone(l[:len(l)-1]), m...)) {
			t.Fatal(s, u)
		}
	}
}

func TestP11_1Letters(t *testing.T) {
	if l, _, e := lex.Lex("az09z z"); e != api.OK || len(l) != 3 || l[0].Text != "az09z" || l[1].Text != "z" {
		t.Error(l, e)
	}
	for _, s := range []string{"`", "{", ":", "@"} {
		if _, at, e := lex.Lex("a" + s); at != 1 || e != api.ErrToken {
			t.Error(s)
		}
	}
}
