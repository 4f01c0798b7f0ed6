package print_test

import (
	"math/rand"
	"slices"
	"strings"
	"testing"

	"lustrum/api"
	"lustrum/point"
	"lustrum/print"
	"lustrum/tree"
)

// of is the point of a text, with marks behind it: "1984?~".
func of(s string) api.Node {
	p, _ := point.Read(strings.TrimRight(s, "?~"))
	return api.Node{P: p, Ask: strings.Contains(s, "?"), Tilde: strings.Contains(s, "~")}
}

func list(l ...api.Node) api.Node { return api.Node{Kind: 2, L: l} }
func span(l ...api.Node) api.Node { return api.Node{Kind: 1, L: l} }

var open, unknown = api.Node{Kind: 3}, api.Node{Kind: 4}

// P11.1: what expressions are written.
func TestText(t *testing.T) {
	for want, n := range map[string]api.Node{
		"1984": of("1984"), "1984?": of("1984?"), "1984~": of("1984~"), "1984?~": of("1984?~"),
		"1984-05-06": of("1984-05-06"), "19X4-1X?": of("19X4-1X?"), "XXXXsX~": of("XXXXsX~"), "198d": of("198d"), "19c?~": of("19c?~"),
		"1984/1985": span(of("1984"), of("1985")), "1984/..": span(of("1984"), open), "../1984?": span(open, of("1984?")), "*/..": span(unknown, open), "../*": span(open, unknown), "*/*": span(unknown, unknown), "1984~/198d?~": span(of("1984~"), of("198d?~")),
		"[1984]": list(of("1984")), "[1984, 1985]": list(of("1984"), of("1985")), "[1985, 1984, 1985]": list(of("1985"), of("1984"), of("1985")),
		"[1984?~, 198d/..]":              list(of("1984?~"), span(of("198d"), open)),
		"[[1984], [[1985, */..], 198d]]": list(list(of("1984")), list(list(of("1985"), span(unknown, open)), of("198d"))),
		"[[[[[[[[1984]]]]]]]]":           list(list(list(list(list(list(list(list(of("1984"))))))))),
	} {
		before := tree.OneOf(slices.Clone(n.L))
		if got := print.Text(n); got != want {
			t.Errorf("%q, not %q", got, want)
		}
		if !tree.Same(before, tree.OneOf(n.L)) {
			t.Errorf("%q was changed", want)
		}
	}
}

// P11.1: what is no expression.
func TestTextOfNoExpression(t *testing.T) {
	deep := of("1984")
	for range 9 {
		deep = list(deep)
	}
	for i, n := range []api.Node{
		{}, open, unknown, list(), list(open), list(of("1984"), unknown), span(), span(of("1984")), span(of("1984"), of("1985"), of("1986")), span(list(of("1984")), of("1985")), span(of("1984"), api.Node{}),
		{Kind: 5}, {Kind: -1}, of("198"), of("1984-13"), {P: of("1984").P, L: []api.Node{open}}, {Kind: 2, Ask: true, L: []api.Node{of("1984")}}, {Kind: 3, P: of("1984").P},
		list(list()), list(of("1984"), of("198")), deep, list(slices.Repeat([]api.Node{of("1984")}, 64)...),
	} {
		if got := print.Text(n); got != "" {
			t.Errorf("%d, no expression: %q", i, got)
		}
	}
}

// byChance tells an expression.
func byChance(r *rand.Rand, deep int) api.Node {
	words := []string{"1984", "1985?", "1984~", "198d?~", "1984-05-06", "19c", "1984s2", "1984-05", "1984?"}
	end := func() api.Node {
		return []api.Node{of(words[r.Intn(len(words))]), of(words[r.Intn(len(words))]), open, unknown}[r.Intn(4)]
	}
	switch k := r.Intn(8); {
	case k < 3 || deep == 0:
		return of(words[r.Intn(len(words))])
	case k < 5:
		return span(end(), end())
	}
	n := api.Node{Kind: 2}
	for range 1 + r.Intn(3) {
		n.L = append(n.L, byChance(r, deep-1))
	}
	return n
}

// P11.2: unlike expressions have unlike texts.
func TestUnlikeTexts(t *testing.T) {
	r, seen := rand.New(rand.NewSource(11)), map[string]api.Node{}
	for range 20000 {
		n := byChance(r, 3)
		if !tree.Sane(n) {
			continue
		}
		s := print.Text(n)
		if s == "" {
			t.Fatalf("%v has no text", n)
		}
		if m, ok := seen[s]; ok && !tree.Same(n, m) {
			t.Fatalf("%v and %v: %q", n, m, s)
		}
		seen[s] = n
	}
}

// P11.2: the longest texts have no more than 2000 bytes.
func TestLongTexts(t *testing.T) {
	day := of("1984-05-06?~")
	points := list(slices.Repeat([]api.Node{day}, 63)...)
	spans := list(slices.Repeat([]api.Node{span(day, day)}, 21)...)
	for range 7 {
		points = list(append(slices.Clone(points.L[:len(points.L)-1]), list(day))...)
		points.L = points.L[1:]
	}
	for _, n := range []api.Node{list(slices.Repeat([]api.Node{day}, 63)...), points, spans} {
		if s := print.Text(n); s == "" || len(s) > api.MaxText {
			t.Errorf("%d bytes", len(s))
		}
	}
	if s := print.Text(list(slices.Repeat([]api.Node{day}, 63)...)); s != "["+strings.Repeat("1984-05-06?~, ", 62)+"1984-05-06?~]" {
		t.Error(s)
	}
}
