package denote_test

import (
	"math"
	"math/rand"
	"slices"
	"strings"
	"testing"

	"lustrum/api"
	"lustrum/canon"
	"lustrum/civil"
	"lustrum/denote"
	"lustrum/image"
	"lustrum/leaf"
	"lustrum/parse"
	"lustrum/point"
	"lustrum/runs"
	"lustrum/tree"
)

type set = []api.Run

// rs tells the runs from each first to each second number.
func rs(n ...int) set {
	var s set
	for i := 0; i+1 < len(n); i += 2 {
		s = append(s, api.Run{Lo: n[i], Hi: n[i+1]})
	}
	return s
}

func isLeaf(f, g api.Leaf) bool {
	return f.Span == g.Span && f.U == g.U && slices.Equal(f.A, g.A) && slices.Equal(f.B, g.B)
}

// parsed is the expression of a text that is one.
func parsed(t *testing.T, s string) api.Node {
	t.Helper()
	n, _, errno := parse.Parse(s)
	if errno != api.OK {
		t.Fatalf("%q: %d", s, errno)
	}
	return n
}

// day is a date's number.
func day(y, m, d int) int {
	n, _ := civil.Number(y, m, d)
	return n
}

// units, span and all are leaves that are wanted.
func units(kind int, n ...int) api.Leaf { return api.Leaf{U: kind, A: rs(n...)} }
func span(a, b set) api.Leaf            { return api.Leaf{Span: true, A: a, B: b} }

var (
	all   = rs(0, api.MaxDay)
	first = rs(0, 0)
	last  = rs(api.MaxDay, api.MaxDay)
)

// P15.1: points, spans and lists.
func TestOf(t *testing.T) {
	one := func(n int) set { return rs(n, n) }
	for s, want := range map[string][]api.Leaf{
		"1984":                          {units(3, 1984, 1984)},
		"1984?":                         {units(3, 1984, 1984)},
		"1984~":                         {units(3, 1982, 1986)},
		"1984?~":                        {units(3, 1982, 1986)},
		"1984-05":                       {units(1, 12*1984+4, 12*1984+4)},
		"1984-05~":                      {units(1, 12*1984+3, 12*1984+5)},
		"1984s4":                        {units(2, 7939, 7939)},
		"1984s4~":                       {units(2, 7938, 7940)},
		"198d":                          {units(4, 198, 198)},
		"198d~":                         {units(4, 197, 199)},
		"19c":                           {units(5, 19, 19)},
		"00c~":                          {units(5, 0, 1)},
		"9999~":                         {units(3, 9997, 9999)},
		"2000-01-01":                    {units(0, 730485, 730485)},
		"2000-01-01~":                   {units(0, 730482, 730488)},
		"XXXX-XX-XX":                    {units(0, 0, api.MaxDay)},
		"198X":                          {units(3, 1980, 1989)},
		"2023-02-3X":                    {units(0)},
		"2023-02-3X~":                   {units(0)},
		"1984/..":                       {span(one(724641), last)},
		"1984/1985":                     {span(one(724641), one(day(1985, 12, 31)))},
		"1985/1984":                     {span(one(day(1985, 1, 1)), one(day(1984, 12, 31)))},
		"../1984":                       {span(first, one(day(1984, 12, 31)))},
		"../..":                         {span(first, last)},
		"*/*":                           {span(all, all)},
		"*/..":                          {span(all, last)},
		"../*":                          {span(first, all)},
		"1984/*":                        {span(one(724641), all)},
		"*/1984-02":                     {span(all, one(day(1984, 2, 29)))},
		"1984-01/1984-03~":              {span(one(724641), rs(day(1984, 2, 29), day(1984, 2, 29), day(1984, 3, 31), day(1984, 3, 31), day(1984, 4, 30), day(1984, 4, 30)))},
		"1984~/1984?":                   {span(rs(day(1982, 1, 1), day(1982, 1, 1), day(1983, 1, 1), day(1983, 1, 1), day(1984, 1, 1), day(1984, 1, 1), day(1985, 1, 1), day(1985, 1, 1), day(1986, 1, 1), day(1986, 1, 1)), one(day(1984, 12, 31)))},
		"2023-02-3X/1984":               {span(nil, one(day(1984, 12, 31)))},
		"1984s4/1984s4":                 {span(one(day(1984, 12, 1)), one(day(1985, 2, 28)))},
		"2000-01-01~/2000-01-0X":        {span(rs(730482, 730488), rs(730485, 730493))},
		"[1984]":                        {units(3, 1984, 1984)},
		"[1985, 1984, [198d/.., 1985]]": {units(3, 1985, 1985), units(3, 1984, 1984), span(one(day(1980, 1, 1)), last), units(3, 1985, 1985)},
	} {
		l, errno := denote.Of(parsed(t, s))
		if errno != api.OK || !slices.EqualFunc(l, want, isLeaf) {
			t.Errorf("Of %q: %v, %d, not %v", s, l, errno, want)
		}
	}
}

// P15.1: what is too wide, wherever it stands.
func TestTooWide(t *testing.T) {
	for _, s := range []string{"XXXX", "XXXX~", "1XXX", "XXXd", "XXXX-01-01", "19XX-XX", "XXXXs1", "[1984, XXXX]", "[XXXX, 1984]", "XXXX/1984", "1984/XXXX", "XXXX~/..", "*/1XXX?", "[[1984, [*/XXXX]]]", "XX84~/..", "X9XX-01-X1~"} {
		if l, errno := denote.Of(parsed(t, s)); len(l) > 0 || errno != api.ErrWide {
			t.Errorf("Of %q: %v, %d", s, l, errno)
		}
	}
	for _, s := range []string{"19XX", "19XX~", "19XX/X9XX-02-29", "19XX-01-X1", "19XX/19XX"} {
		if l, errno := denote.Of(parsed(t, s)); len(l) != 1 || errno != api.OK {
			t.Errorf("Of %q: %v, %d", s, l, errno)
		}
	}
}

// P15.1: what is no expression, even where it would be too wide.
func TestNoExpression(t *testing.T) {
	year, wide := parsed(t, "1984"), parsed(t, "XXXX")
	deep := year
	for range 9 {
		deep = tree.OneOf([]api.Node{deep})
	}
	for i, n := range []api.Node{
		{}, {Kind: 3}, {Kind: 4}, {Kind: 5}, {Kind: -1}, {Kind: math.MinInt}, {Kind: 1}, {Kind: 2}, tree.OneOf([]api.Node{year, {}}), tree.OneOf([]api.Node{wide, {}}), tree.OneOf([]api.Node{wide, {Kind: 3}}),
		tree.Between(wide, api.Node{}), tree.Between(api.Node{}, wide), tree.Between(tree.OneOf([]api.Node{year}), year), {P: api.Point{Kind: 3, Y: "198"}}, {P: api.Point{Kind: 9, Y: "1984"}}, {P: year.P, L: []api.Node{year}},
		{Kind: 2, Ask: true, L: []api.Node{year}}, deep, tree.OneOf(slices.Repeat([]api.Node{year}, 64)),
	} {
		if l, errno := denote.Of(n); len(l) > 0 || errno != api.ErrForm {
			t.Errorf("Of %d: %v, %d", i, l, errno)
		}
	}
}

// P15.2
func TestHas(t *testing.T) {
	l, _ := denote.Of(parsed(t, "[1984, 1985-05/1985-07, 2000-01-0X]"))
	year := api.Pair{S: day(1984, 1, 1), T: day(1984, 12, 31)}
	for _, x := range []struct {
		p    api.Pair
		want bool
	}{
		{year, true}, {api.Pair{S: year.S, T: year.T - 1}, false}, {api.Pair{S: day(1985, 5, 1), T: day(1985, 7, 31)}, true}, {api.Pair{S: day(1985, 5, 1), T: day(1985, 7, 30)}, false},
		{api.Pair{S: 730485, T: 730485}, true}, {api.Pair{S: 730493, T: 730493}, true}, {api.Pair{S: 730494, T: 730494}, false}, {api.Pair{S: 730485, T: 730486}, false}, {api.Pair{}, false}, {api.Pair{S: math.MaxInt, T: math.MinInt}, false},
	} {
		if denote.Has(l, x.p) != x.want {
			t.Errorf("Has %v is not %v", x.p, x.want)
		}
		if denote.Has(nil, x.p) {
			t.Errorf("nothing has %v", x.p)
		}
	}
	if denote.Has([]api.Leaf{{U: 3, A: rs(1984, 1984), B: rs(1, 1)}, {U: 9}}, year) {
		t.Error("what may not be has no pair")
	}
}

// P15.2
func TestSize(t *testing.T) {
	for s, want := range map[string]int{"1984": 1, "19X4": 10, "1984/..": 2, "19X4/*": 11, "[1984, 19X4/*, 19X4]": 22, "2023-02-3X": 0, "198X": 1, "198X/198X": 20} {
		l, _ := denote.Of(parsed(t, s))
		if n := denote.Size(l); n != want {
			t.Errorf("Size of %q: %d, not %d", s, n, want)
		}
	}
	if n := denote.Size(nil); n != 0 {
		t.Errorf("Size of nothing: %d", n)
	}
}

// byChance tells the texts of expressions.
func byChance(n int) []string {
	r := rand.New(rand.NewSource(15))
	words := []string{"1984", "198X?", "1984~", "198d?~", "1984-05-06", "1984-05-0X~", "19c", "1984s2", "1984-05~", "1984?", "XXXX-XX-XX", "2023-02-3X", "19X4-02-29", "XX00~", "1XXX"}
	word := func() string { return words[r.Intn(len(words)-r.Intn(2))] }
	end := func() string { return []string{word(), word(), "..", "*"}[r.Intn(4)] }
	var text func(deep int) string
	text = func(deep int) string {
		switch k := r.Intn(8); {
		case k < 3 || deep == 0:
			return word()
		case k < 5:
			return end() + "/" + end()
		}
		var l []string
		for range 1 + r.Intn(4) {
			l = append(l, text(deep-1))
		}
		return "[" + strings.Join(l, ",") + "]"
	}
	var l []string
	for range n {
		l = append(l, text(3))
	}
	return l
}

// pointsOf tells all points of an expression.
func pointsOf(n api.Node) []api.Node {
	if n.Kind == 0 {
		return []api.Node{n}
	}
	var l []api.Node
	for _, m := range n.L {
		l = append(l, pointsOf(m)...)
	}
	return l
}

// wide: are the first days of a point's units too many runs?
func wide(n api.Node) bool {
	_, errno := point.Set(n.P)
	if n.Tilde && errno == api.OK {
		_, errno = point.Near(n.P)
	}
	return errno == api.ErrWide
}

// P15.1 and P15.3: each leaf may be, there are as many as points and spans, there is none of just what is too wide; the canonical expression has the same pairs.
func TestByChance(t *testing.T) {
	for _, s := range byChance(2000) {
		n := parsed(t, s)
		before := parsed(t, s)
		if !tree.Sane(n) {
			continue
		}
		l, errno := denote.Of(n)
		if !tree.Same(n, before) {
			t.Fatalf("%q was changed", s)
		}
		if tooWide := slices.ContainsFunc(pointsOf(n), wide); (errno != api.OK) != tooWide || tooWide && errno != api.ErrWide {
			t.Fatalf("Of %q: %d", s, errno)
		}
		c, other := denote.Of(canon.Canon(n))
		if other != errno {
			t.Fatalf("Of the canonical %q: %d", s, other)
		}
		if errno != api.OK {
			continue
		}
		if want := strings.Count(s, ",") + 1; len(l) != want {
			t.Fatalf("Of %q: %d leaves", s, len(l))
		}
		for _, f := range l {
			if !leaf.Sane(f) {
				t.Fatalf("Of %q: %v", s, f)
			}
			if !slices.ContainsFunc(c, func(g api.Leaf) bool { return isLeaf(f, g) }) {
				t.Fatalf("%v of %q has another canonical one", f, s)
			}
		}
		for _, f := range c {
			if !slices.ContainsFunc(l, func(g api.Leaf) bool { return isLeaf(f, g) }) {
				t.Fatalf("%v is not of %q", f, s)
			}
		}
	}
}

// P15.1: of each two points the first days of one, the last days of the other.
func TestSpans(t *testing.T) {
	words := []string{"1984", "198X?", "1984~", "198d?~", "1984-05-06", "1984-05-0X~", "19c", "1984s2", "1984-05~", "2023-02-3X", "19X4-02-29", "1X00~"}
	for _, a := range words {
		for _, b := range words {
			l, errno := denote.Of(parsed(t, a+"/"+b))
			from, _ := denote.Of(parsed(t, a))
			to, _ := denote.Of(parsed(t, b))
			starts, _ := image.Starts(from[0].U, from[0].A)
			ends, _ := image.Ends(to[0].U, to[0].A)
			if errno != api.OK || len(l) != 1 || !isLeaf(l[0], span(starts, ends)) || !runs.Sane(l[0].A) {
				t.Errorf("Of %s/%s: %v, %d", a, b, l, errno)
			}
		}
	}
}
