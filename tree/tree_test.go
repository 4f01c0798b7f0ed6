package tree_test

import (
	"math"
	"math/rand"
	"slices"
	"testing"

	"lustrum/api"
	"lustrum/point"
	"lustrum/tree"
)

var (
	year    = api.Point{Kind: api.Year, Y: "1984"}
	month   = api.Point{Kind: api.Month, Y: "19X4", M: "1X"}
	noPoint = api.Point{Kind: api.Year, Y: "198"}
	one     = api.Node{P: year}
	other   = api.Node{P: month, Ask: true, Tilde: true}
	open    = api.Node{Kind: 3}
	unknown = api.Node{Kind: 4}
)

// list and span are nodes, whatever stands in them.
func list(l ...api.Node) api.Node { return api.Node{Kind: 2, L: l} }
func span(l ...api.Node) api.Node { return api.Node{Kind: 1, L: l} }

// nested is a node within so many lists.
func nested(n api.Node, lists int) api.Node {
	for range lists {
		n = list(n)
	}
	return n
}

// times is a list of so many of one node.
func times(n api.Node, count int) api.Node {
	return list(slices.Repeat([]api.Node{n}, count)...)
}

// The kinds' numbers are those of the document.
func TestKinds(t *testing.T) {
	if got := []int{tree.Point, tree.Span, tree.List, tree.Open, tree.Unknown}; !slices.Equal(got, []int{0, 1, 2, 3, 4}) {
		t.Error(got)
	}
}

// P10.1: what is made, whatever of.
func TestMade(t *testing.T) {
	for _, p := range []api.Point{{}, year, month, noPoint, {Kind: -7, Y: "\xff"}} {
		for i := range 4 {
			ask, tilde := i&1 > 0, i&2 > 0
			n := tree.Of(p, ask, tilde)
			if n.Kind != 0 || n.P != p || n.Ask != ask || n.Tilde != tilde || len(n.L) > 0 {
				t.Errorf("Of(%v, %v, %v): %v", p, ask, tilde, n)
			}
		}
	}
	nodes := []api.Node{{}, one, other, open, unknown, list(one), span(one, open), {Kind: 99, P: noPoint}}
	for _, a := range nodes {
		for _, b := range nodes {
			n := tree.Between(a, b)
			if n.Kind != 1 || n.P != (api.Point{}) || n.Ask || n.Tilde || len(n.L) != 2 || !tree.Same(n.L[0], a) || !tree.Same(n.L[1], b) {
				t.Errorf("Between(%v, %v): %v", a, b, n)
			}
		}
	}
	for i := range nodes {
		n := tree.OneOf(nodes[:i])
		if n.Kind != 2 || n.P != (api.Point{}) || n.Ask || n.Tilde || len(n.L) != i {
			t.Errorf("OneOf of %d: %v", i, n)
		}
		for j := range n.L {
			if !tree.Same(n.L[j], nodes[j]) {
				t.Errorf("OneOf of %d: %v", i, n)
			}
		}
	}
	if n := tree.OneOf(nil); n.Kind != 2 || len(n.L) > 0 {
		t.Errorf("OneOf of none: %v", n)
	}
}

// P10.2: what may be an end.
func TestEnd(t *testing.T) {
	for _, n := range []api.Node{one, other, open, unknown, {P: year, Ask: true}, {P: year, Tilde: true, L: []api.Node{}}, {Kind: 3, L: []api.Node{}}} {
		if !tree.End(n) {
			t.Errorf("%v is an end", n)
		}
	}
	for _, n := range []api.Node{
		{}, {P: noPoint}, {P: year, L: []api.Node{one}}, list(one), span(one, one), list(), {Kind: 5}, {Kind: -1}, {Kind: math.MinInt}, {Kind: 5, P: year}, {Kind: 1, P: year}, {Kind: 2, P: year},
		{Kind: 3, P: year}, {Kind: 3, Ask: true}, {Kind: 3, Tilde: true}, {Kind: 3, L: []api.Node{one}}, {Kind: 3, P: api.Point{D: "X"}},
		{Kind: 4, P: year}, {Kind: 4, Ask: true}, {Kind: 4, Tilde: true}, {Kind: 4, L: []api.Node{open}}, {Kind: 4, P: api.Point{Kind: 1}},
	} {
		if tree.End(n) {
			t.Errorf("%v is no end", n)
		}
	}
}

// P10.2: how many nodes, and how deep.
func TestCountAndDeep(t *testing.T) {
	for _, x := range []struct {
		n           api.Node
		count, deep int
	}{
		{api.Node{}, 1, 0}, {one, 1, 0}, {open, 1, 0}, {span(one, open), 3, 0}, {span(), 1, 0}, {list(), 1, 1}, {list(one), 2, 1},
		{list(one, span(one, open), list(one, list(open))), 9, 3}, {list(list(), list(list()), one), 5, 3},
		{span(list(one), one), 4, 1}, {list(span(list(one), one)), 5, 2}, {api.Node{Kind: 0, L: []api.Node{list(), one}}, 3, 1},
		{api.Node{Kind: 77, L: []api.Node{{Kind: -5, L: []api.Node{list(list())}}}}, 4, 2},
		{times(one, 1000), 1001, 1}, {nested(one, 3000), 3001, 3000}, {nested(span(one, one), 2000), 2003, 2000},
		{nested(times(one, 70), 9), 80, 10},
	} {
		if got := tree.Count(x.n); got != x.count {
			t.Errorf("Count: %d, not %d", got, x.count)
		}
		if got := tree.Deep(x.n); got != x.deep {
			t.Errorf("Deep: %d, not %d", got, x.deep)
		}
	}
}

// P10.3: expressions, up to 64 nodes and 8 lists in one another.
func TestSane(t *testing.T) {
	for i, n := range []api.Node{
		one, other, {P: year, L: []api.Node{}}, span(one, open), span(open, open), span(unknown, open), span(unknown, unknown), span(open, other), span(one, other),
		list(one), list(one, one), list(span(one, open), one, list(other)), list(list(list(one), span(open, one)), one),
		nested(one, 8), nested(span(one, one), 8), list(nested(one, 7), nested(one, 7), one),
		times(one, 63), times(span(one, open), 21), nested(times(one, 60), 3), nested(times(one, 56), 7), list(append(times(span(one, one), 20).L, one, other, one)...),
	} {
		if !tree.Sane(n) {
			t.Errorf("expression %d is one", i)
		}
	}
	for i, n := range []api.Node{
		{}, open, unknown, {P: noPoint}, {P: noPoint, Ask: true}, {Kind: 5}, {Kind: -1}, {Kind: math.MaxInt}, {Kind: math.MinInt, P: year}, {Kind: 5, P: year}, {Kind: 3, P: year}, {P: year, L: []api.Node{one}}, {P: year, L: []api.Node{open}},
		span(), span(one), span(one, open, one), span(one, api.Node{}), span(api.Node{}, one), span(list(one), one), span(one, list(one)), span(span(one, one), one), span(one, span(one, one)), span(one, api.Node{P: noPoint}), span(one, api.Node{Kind: 5}),
		{Kind: 1, P: year, L: []api.Node{one, one}}, {Kind: 1, Ask: true, L: []api.Node{one, one}}, {Kind: 1, Tilde: true, L: []api.Node{one, one}}, span(one, api.Node{Kind: 3, Ask: true}), span(api.Node{Kind: 4, P: year}, one), span(api.Node{P: year, L: []api.Node{one}}, one),
		list(), list(open), list(unknown), list(one, open), list(unknown, one), list(api.Node{}), list(one, api.Node{}), list(list()), list(one, list()), list(one, span(one)), list(one, api.Node{Kind: 7}),
		{Kind: 2, P: year, L: []api.Node{one}}, {Kind: 2, Ask: true, L: []api.Node{one}}, {Kind: 2, Tilde: true, L: []api.Node{one}}, {Kind: 2, P: api.Point{M: "1"}, L: []api.Node{one}},
		list(one, api.Node{Kind: 2, Tilde: true, L: []api.Node{one}}), list(one, api.Node{Kind: 1, Ask: true, L: []api.Node{one, one}}),
		nested(one, 9), nested(span(one, one), 9), list(one, nested(one, 8)), nested(one, 2000), list(nested(one, 7), one, nested(one, 8)),
		times(one, 64), times(one, 5000), list(append(times(span(one, open), 21).L, one)...), nested(times(one, 60), 4), nested(times(one, 57), 7), list(append(times(span(one, one), 20).L, one, one, one, one)...), list(append(times(span(one, one), 20).L, one, span(one, one))...),
	} {
		if tree.Sane(n) {
			t.Errorf("%d is no expression", i)
		}
	}
}

// sane tells by the document's words whether it is an expression; it counts with Count and Deep.
func sane(n api.Node) bool {
	var may func(n api.Node) bool
	may = func(n api.Node) bool {
		bare := n.P == api.Point{} && !n.Ask && !n.Tilde
		switch n.Kind {
		case 0:
			return point.Sane(n.P) && len(n.L) == 0
		case 1:
			return bare && len(n.L) == 2 && tree.End(n.L[0]) && tree.End(n.L[1])
		case 2:
			return bare && len(n.L) > 0 && !slices.ContainsFunc(n.L, func(m api.Node) bool { return !may(m) })
		}
		return false
	}
	return may(n) && tree.Count(n) <= 64 && tree.Deep(n) <= 8
}

// byChance tells a node that is an expression now and then.
func byChance(r *rand.Rand, deep int) api.Node {
	ends := []api.Node{one, one, one, other, other, open, unknown}
	switch k := r.Intn(10); {
	case k < 4 || deep == 0:
		return ends[r.Intn(5)]
	case k < 6:
		return span(ends[r.Intn(7)], ends[r.Intn(7)])
	case k == 6 && r.Intn(4) == 0:
		return []api.Node{open, {}, span(one), list(), {P: noPoint}, {Kind: 2, Ask: true, L: []api.Node{one}}}[r.Intn(6)]
	}
	n := api.Node{Kind: 2}
	for range 1 + r.Intn(5) {
		n.L = append(n.L, byChance(r, deep-1))
	}
	return n
}

// P10.3: expressions by chance.
func TestSaneByChance(t *testing.T) {
	r, count := rand.New(rand.NewSource(10)), 0
	for range 6000 {
		n := byChance(r, 4+r.Intn(6))
		if tree.Sane(n) != sane(n) {
			t.Errorf("Sane is not %v of %d nodes, %d deep", sane(n), tree.Count(n), tree.Deep(n))
		}
		if sane(n) {
			count++
		}
	}
	if count < 2000 || count > 5900 {
		t.Errorf("%d expressions", count)
	}
}

// P10.4: all fields, at any depth.
func TestSame(t *testing.T) {
	l := []api.Node{
		{}, one, other, {P: year, Ask: true}, {P: year, Tilde: true}, {Kind: 1, P: year}, {P: noPoint}, {P: month}, open, unknown, {Kind: 99}, {Kind: -1},
		{P: api.Point{Kind: 1}}, {P: api.Point{Y: "1"}}, {P: api.Point{M: "1"}}, {P: api.Point{D: "1"}},
		list(), span(), list(one), list(other), list(one, one), list(one, other), list(other, one), span(one, other), list(list(one)), list(list(other)), list(list(one), one), list(one, list(one)),
		list(one, list(one, span(one, open))), list(one, list(one, span(one, unknown))), list(one, list(one, span(open, one))), list(one, list(one, list(one, open))),
		{L: []api.Node{one}}, {Kind: 2, Ask: true, L: []api.Node{one}}, {Kind: 2, P: year, L: []api.Node{one}}, nested(one, 3000), nested(other, 3000), nested(one, 3001), times(one, 500), times(one, 501),
	}
	for i, a := range l {
		for j, b := range l {
			if tree.Same(a, b) != (i == j) {
				t.Errorf("Same of %d and %d is not %v", i, j, i == j)
			}
		}
		if !tree.Same(a, deepCopy(a)) {
			t.Errorf("Same of %d and its copy", i)
		}
	}
	if !tree.Same(api.Node{Kind: 2, L: []api.Node{}}, api.Node{Kind: 2}) {
		t.Error("lists without elements are the same")
	}
}

func deepCopy(n api.Node) api.Node {
	n.L = slices.Clone(n.L)
	for i := range n.L {
		n.L[i] = deepCopy(n.L[i])
	}
	return n
}

// R3: nothing that is handed in is changed.
func TestNothingIsChanged(t *testing.T) {
	n := list(one, list(other, span(one, open)), span(unknown, one))
	before := deepCopy(n)
	tree.Sane(n)
	tree.End(n)
	tree.Count(n)
	tree.Deep(n)
	tree.Same(n, before)
	tree.Between(n, n)
	tree.OneOf(n.L)
	if !tree.Same(n, before) {
		t.Error(n)
	}
}
