package canon_test

import (
	"math/rand"
	"slices"
	"strings"
	"testing"

	"lustrum/api"
	"lustrum/canon"
	"lustrum/point"
	"lustrum/print"
	"lustrum/tree"
)

// of is the point of a text, with marks behind it: "1984?~".
func of(s string) api.Node {
	p, _ := point.Read(strings.TrimRight(s, "?~"))
	return api.Node{P: p, Ask: strings.Contains(s, "?"), Tilde: strings.Contains(s, "~")}
}

func list(l ...api.Node) api.Node { return api.Node{Kind: 2, L: l} }
func span(l ...api.Node) api.Node { return api.Node{Kind: 1, L: l} }

var open, unknown = api.Node{Kind: 3}, api.Node{Kind: 4}

// deepCopy shares nothing with the node.
func deepCopy(n api.Node) api.Node {
	n.L = slices.Clone(n.L)
	for i := range n.L {
		n.L[i] = deepCopy(n.L[i])
	}
	return n
}

// P12.1: by hand.
func TestCanon(t *testing.T) {
	a, b, c := of("1984"), of("1985"), of("1984?")
	for _, x := range []struct {
		n    api.Node
		want string
	}{
		{a, "1984"}, {c, "1984?"}, {span(b, a), "1985/1984"}, {span(open, unknown), "../*"},
		{list(b, list(a, b)), "[1984, 1985]"}, {list(a), "1984"}, {list(list(list(a))), "1984"}, {list(a, a, a), "1984"}, {list(list(a), a, list(list(a, a))), "1984"},
		{list(span(b, a)), "1985/1984"}, {list(span(b, a), list(span(b, a))), "1985/1984"},
		{list(b, a), "[1984, 1985]"}, {list(a, b), "[1984, 1985]"}, {list(c, a), "[1984, 1984?]"}, {list(of("1984~"), c, of("1984?~"), a), "[1984, 1984?, 1984?~, 1984~]"},
		{list(list(b, list(of("198d"), a)), list(of("1983"), list(b))), "[1983, 1984, 1985, 198d]"},
		{list(span(a, open), span(open, a), span(unknown, a), a, of("1984-01"), of("1984s1"), of("19c"), of("XXXX-XX-XX")), "[*/1984, ../1984, 1984, 1984-01, 1984/.., 1984s1, 19c, XXXX-XX-XX]"},
		{list(span(a, b), span(a, open), span(a, unknown), list(span(a, b))), "[1984/*, 1984/.., 1984/1985]"},
	} {
		before := deepCopy(x.n)
		got := canon.Canon(x.n)
		if s := print.Text(got); s != x.want {
			t.Errorf("Canon of %q: %q, not %q", print.Text(x.n), s, x.want)
		}
		if !tree.Same(before, x.n) {
			t.Errorf("%q was changed", x.want)
		}
		if canon.Is(x.n) != (print.Text(x.n) == x.want) || !canon.Is(got) {
			t.Errorf("Is of %q, or of %q", print.Text(x.n), x.want)
		}
	}
}

// P12.1: what is no expression.
func TestNoExpression(t *testing.T) {
	for i, n := range []api.Node{
		{}, open, unknown, list(), list(open), list(of("1984"), unknown), list(list()), span(), span(of("1984")), span(list(of("1984")), open), {Kind: 7}, {Kind: -1}, of("198"), list(of("1984"), of("198")),
		{Kind: 2, Ask: true, L: []api.Node{of("1984")}}, list(slices.Repeat([]api.Node{of("1984")}, 64)...), {Kind: 3, P: of("1984").P},
		list(list(list(list(list(list(list(list(list(of("1984"))))))))))} {
		if got := canon.Canon(n); !tree.Same(got, api.Node{}) {
			t.Errorf("Canon of %d: %v", i, got)
		}
		if canon.Is(n) {
			t.Errorf("Is of %d", i)
		}
	}
}

// P12.1: what is not its own canonical expression, and what is.
func TestIs(t *testing.T) {
	a, b := of("1984"), of("1985")
	for _, n := range []api.Node{list(a), list(b, a), list(a, a), list(list(a, b)), list(a, list(b)), list(list(a), b), list(a, b, b), list(a, of("1986"), b)} {
		if canon.Is(n) {
			t.Errorf("Is of %q", print.Text(n))
		}
	}
	for _, n := range []api.Node{a, of("1984?~"), span(b, a), list(a, b), list(span(a, b), b), {P: a.P, L: []api.Node{}}} {
		if !canon.Is(n) {
			t.Errorf("Is not of %q", print.Text(n))
		}
	}
}

// byChance tells an expression.
func byChance(r *rand.Rand, deep int) api.Node {
	words := []string{"1984", "1985?", "1984~", "198d?~", "1984-05-06", "19c", "1984s2", "1984-05", "1984?"}
	end := func() api.Node {
		return []api.Node{of(words[r.Intn(len(words))]), of(words[r.Intn(len(words))]), open, unknown}[r.Intn(4)]
	}
	switch k := r.Intn(8); {
	case k < 3 || deep == 0:
		return of(words[r.Intn(len(words))])
	case k < 5:
		return span(end(), end())
	}
	n := api.Node{Kind: 2}
	for range 1 + r.Intn(4) {
		n.L = append(n.L, byChance(r, deep-1))
	}
	return n
}

// texts tells the texts of all elements, those of lists in place of the lists, each once, sorted.
func texts(n api.Node) []string {
	if n.Kind != 2 {
		return []string{print.Text(n)}
	}
	var l []string
	for _, m := range n.L {
		l = append(l, texts(m)...)
	}
	slices.Sort(l)
	return slices.Compact(l)
}

// P12.1 and P12.2: expressions by chance; what is canonical stays, no list stands in a list, another order says the same.
func TestByChance(t *testing.T) {
	r := rand.New(rand.NewSource(12))
	for range 5000 {
		n := byChance(r, 4)
		if !tree.Sane(n) {
			continue
		}
		c := canon.Canon(n)
		want := texts(n)
		s := want[0]
		if len(want) > 1 {
			s = "[" + strings.Join(want, ", ") + "]"
		}
		if got := print.Text(c); got != s {
			t.Fatalf("Canon of %q: %q, not %q", print.Text(n), got, s)
		}
		if !tree.Same(canon.Canon(c), c) || !canon.Is(c) || tree.Deep(c) > 1 {
			t.Fatalf("%q does not stay, or is no expression, or is deep", s)
		}
		if canon.Is(n) != (print.Text(n) == s) {
			t.Fatalf("Is of %q", print.Text(n))
		}
		if n.Kind != 2 {
			continue
		}
		m := deepCopy(n)
		r.Shuffle(len(m.L), func(i, j int) { m.L[i], m.L[j] = m.L[j], m.L[i] })
		if !tree.Same(canon.Canon(m), c) {
			t.Fatalf("%q and %q say the same", print.Text(n), print.Text(m))
		}
	}
}

// P12.1: as many elements as there may be.
func TestManyElements(t *testing.T) {
	var l []api.Node
	for i := range 63 {
		l = append(l, of("19"+string(rune('0'+(i*7%63)/10))+string(rune('0'+(i*7%63)%10))))
	}
	c := canon.Canon(list(l...))
	s := print.Text(c)
	for _, n := range c.L {
		if !slices.ContainsFunc(l, func(m api.Node) bool { return tree.Same(n, m) }) {
			t.Error(n)
		}
	}
	if want := texts(list(l...)); s != "["+strings.Join(want, ", ")+"]" || !canon.Is(c) {
		t.Error(s)
	}
}
