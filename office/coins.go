package office

import (
	"slices"

	"consol/accrue"
	"consol/api"
	"consol/clear"
	"consol/frac"
)

// edge is what goes from an issuer to another node: an issuer, or the outside, whose number is that of the issuers.
type edge struct {
	from, to int
	value    api.Frac
}

func number(n int) api.Frac {
	f, _ := frac.Of(n, 1)
	return f
}

func isWhole(f api.Frac) bool { return f.Q.Sign == 1 && len(f.Q.Digits) == 1 && f.Q.Digits[0] == 1 }

func sameFracs(a, b []api.Frac) bool {
	return slices.EqualFunc(a, b, func(x, y api.Frac) bool { return frac.Right(x) && frac.Right(y) && frac.Compare(x, y) == 0 })
}

func sameClearing(a, b api.Clearing) bool {
	return sameFracs(a.Have, b.Have) && sameFracs(a.Paid, b.Paid) && slices.EqualFunc(a.Falls, b.Falls, slices.Equal[[]int])
}

// Coins returns what is paid for claims in whole coins.
func Coins(cash []int, claims []api.Claim, c api.Clearing) ([]int, api.Errno) {
	if slices.ContainsFunc(claims, func(x api.Claim) bool { return x.From == x.To }) {
		return nil, api.ErrArg
	}
	solved, e := clear.Solve(cash, claims)
	if e != api.OK || !sameClearing(solved, c) {
		return nil, api.ErrArg
	}
	return coins(claims, solved)
}

// coins makes the values of a clearing whole.
func coins(claims []api.Claim, c api.Clearing) ([]int, api.Errno) {
	edges, e := edgesOf(claims, c)
	if e != api.OK {
		return nil, api.ErrFull
	}
	w := walker{edges: edges, at: make([][]int, len(c.Have)+1)}
	for k, x := range edges {
		w.at[x.from] = append(w.at[x.from], k)
		w.at[x.to] = append(w.at[x.to], k)
	}
	for {
		first := slices.IndexFunc(edges, func(x edge) bool { return !isWhole(x.value) })
		if first < 0 {
			break
		}
		if e := w.turn(w.circle(first)); e != api.OK {
			return nil, api.ErrFull
		}
	}
	var l []int
	for _, x := range edges[:len(claims)] {
		n, e := accrue.Floor(x.value)
		if e != api.OK {
			return nil, api.ErrFull
		}
		l = append(l, n)
	}
	return l, api.OK
}

// edgesOf returns an edge for each claim, and one for what each issuer keeps.
func edgesOf(claims []api.Claim, c api.Clearing) ([]edge, api.Errno) {
	outside := len(c.Have)
	keeps := slices.Clone(c.Have)
	var l []edge
	for k, x := range claims {
		to := x.To
		if to < 0 {
			to = outside
		}
		l = append(l, edge{x.From, to, c.Paid[k]})
		var e api.Errno
		if keeps[x.From], e = frac.Sub(keeps[x.From], c.Paid[k]); e != api.OK {
			return nil, e
		}
	}
	for i, f := range keeps {
		l = append(l, edge{i, outside, f})
	}
	return l, api.OK
}

// walker walks along edges whose values are not whole; at are the edges of each node.
type walker struct {
	edges []edge
	at    [][]int
}

// step is an edge of a walk; forward, if it was gone from its issuer to its other end.
type step struct {
	edge    int
	forward bool
}

// circle walks from the issuer of an edge until it comes to a node for the second time.
func (w *walker) circle(first int) []step {
	node := w.edges[first].from
	seen := map[int]int{node: 0}
	way := []step{{first, true}}
	for {
		last := way[len(way)-1]
		node = w.edges[last.edge].to
		if !last.forward {
			node = w.edges[last.edge].from
		}
		if at, ok := seen[node]; ok {
			return way[at:]
		}
		seen[node] = len(way)
		i := slices.IndexFunc(w.at[node], func(k int) bool { return k != last.edge && !isWhole(w.edges[k].value) })
		if i < 0 {
			return nil
		}
		k := w.at[node][i]
		way = append(way, step{k, w.edges[k].from == node})
	}
}

// turn changes all values of a circle by the least number that makes one of them whole.
func (w *walker) turn(circle []step) api.Errno {
	if len(circle) == 0 {
		return api.ErrFull
	}
	least := number(1)
	for _, s := range circle {
		d, e := distance(w.edges[s.edge].value, s.forward)
		if e != api.OK {
			return e
		}
		if frac.Compare(d, least) < 0 {
			least = d
		}
	}
	for _, s := range circle {
		join := frac.Sub
		if s.forward {
			join = frac.Add
		}
		f, e := join(w.edges[s.edge].value, least)
		if e != api.OK {
			return e
		}
		w.edges[s.edge].value = f
	}
	return api.OK
}

// distance returns how far a value that is not whole is from the next integer, upwards or downwards.
func distance(f api.Frac, up bool) (api.Frac, api.Errno) {
	floor, e := frac.New(frac.Floor(f), number(1).P)
	if e != api.OK {
		return api.Frac{}, e
	}
	rest, e := frac.Sub(f, floor)
	if e != api.OK || !up {
		return rest, e
	}
	return frac.Sub(number(1), rest)
}
