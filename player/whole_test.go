package player_test

import (
	"math/rand"
	"slices"
	"strings"
	"testing"

	"lustrum/allen"
	"lustrum/api"
	"lustrum/canon"
	"lustrum/compose"
	"lustrum/cover"
	"lustrum/denote"
	"lustrum/env"
	"lustrum/image"
	"lustrum/leaf"
	"lustrum/narrow"
	"lustrum/order"
	"lustrum/parse"
	"lustrum/player"
	"lustrum/point"
	"lustrum/print"
	"lustrum/relate"
	"lustrum/sets"
	"lustrum/tree"
)

// The promises W1 to W6, through all layers.

// text is an expression's text by chance, out of some words.
func text(r *rand.Rand, words []string, deep int) string {
	word := func() string { return words[r.Intn(len(words))] }
	switch k := r.Intn(8); {
	case k < 3 || deep == 0:
		return word() + []string{"", "", "?", "~", "?~"}[r.Intn(5)]
	case k < 6:
		return []string{word(), word() + "~", "..", "*"}[r.Intn(4)] + "/" + []string{word(), word() + "?", "..", "*"}[r.Intn(4)]
	}
	var l []string
	for range 1 + r.Intn(3) {
		l = append(l, text(r, words, deep-1))
	}
	return "[" + strings.Join(l, ", ") + "]"
}

// W1: every text is an expression, or has one error, with a place; the canonical expression's text is parsed to it, and fixed.
func TestTexts(t *testing.T) {
	r := rand.New(rand.NewSource(1))
	words := []string{"1984", "198d", "19X4-1X", "1984-05-06", "XXXXs4", "19c"}
	for range 4000 {
		s := text(r, words, 3)
		if r.Intn(2) == 0 {
			at := r.Intn(len(s))
			s = s[:at] + []string{"", " ", "[", "]", "@", ".", "1", "/", "~", "\xff"}[r.Intn(10)] + s[at+r.Intn(2):]
		}
		n, place, errno := parse.Parse(s)
		if errno != api.OK {
			if errno < api.ErrSign || errno > api.ErrLong || place < 0 || place > len(s) || !tree.Same(n, api.Node{}) {
				t.Fatalf("Parse(%q): %v, %d, %d", s, n, place, errno)
			}
			continue
		}
		c := canon.Canon(n)
		again, _, errno := parse.Parse(print.Text(c))
		if errno != api.OK || !tree.Same(again, c) || !tree.Same(canon.Canon(again), c) || !canon.Is(again) || len(print.Text(c)) > api.MaxText {
			t.Fatalf("%q leads to %q", s, print.Text(c))
		}
	}
}

// few are words of few days, so that all pairs can be told.
var few = []string{"1984-05-06", "1984-05-0X", "1984-05", "1984-04-3X", "1984-0X", "1984s2", "1984-06-01", "2023-02-3X"}

// denoted is what the expression of a text means, with all pairs; false, if there are too many to be told.
func denoted(t *testing.T, s string) ([]api.Leaf, []api.Pair, bool) {
	t.Helper()
	n, _, errno := parse.Parse(s)
	l, other := denote.Of(n)
	if errno != api.OK || other != api.OK {
		t.Fatalf("%q: %d, %d", s, errno, other)
	}
	var pairs []api.Pair
	for _, f := range l {
		more := leaf.Pairs(f, 300)
		if len(more) == 300 {
			return nil, nil, false
		}
		pairs = append(pairs, more...)
	}
	return l, pairs, true
}

// someDays are days at which expressions of few days change.
func someDays(pairs []api.Pair) []int {
	days := []int{0, 724641, api.MaxDay}
	for _, p := range pairs {
		days = append(days, p.S-1, p.S, p.T, p.T+1)
	}
	slices.Sort(days)
	return slices.Compact(days)
}

// W2: a day is possible just if some pair has it, certain just if each has; the earliest and latest days are those of pairs.
func TestDays(t *testing.T) {
	r := rand.New(rand.NewSource(2))
	for range 600 {
		s := text(r, few, 2)
		l, pairs, ok := denoted(t, s)
		if !ok {
			continue
		}
		for _, day := range someDays(pairs) {
			has := func(p api.Pair) bool { return p.S <= day && day <= p.T }
			some := slices.ContainsFunc(pairs, has)
			all := some && !slices.ContainsFunc(pairs, func(p api.Pair) bool { return !has(p) })
			if cover.Possible(l, day) != some || cover.Certain(l, day) != all {
				t.Fatalf("%q, day %d: not %v, %v", s, day, some, all)
			}
		}
		first, errno := env.Earliest(l)
		last, _ := env.Latest(l)
		if (errno == api.OK) != (len(pairs) > 0) {
			t.Fatalf("%q: %d", s, errno)
		}
		if errno != api.OK {
			continue
		}
		starts, ends := slices.ContainsFunc(pairs, func(p api.Pair) bool { return p.S == first }), slices.ContainsFunc(pairs, func(p api.Pair) bool { return p.T == last })
		beyond := slices.ContainsFunc(pairs, func(p api.Pair) bool { return p.S < first || p.T > last })
		if !starts || !ends || beyond {
			t.Fatalf("%q: %d to %d", s, first, last)
		}
	}
}

// pointsOf tells all points of an expression.
func pointsOf(n api.Node) []api.Node {
	if n.Kind == tree.Point {
		return []api.Node{n}
	}
	var l []api.Node
	for _, m := range n.L {
		l = append(l, pointsOf(m)...)
	}
	return l
}

// W3: an expression has no denotation just if one of its points has units whose first days are too many runs.
func TestTooWide(t *testing.T) {
	r := rand.New(rand.NewSource(3))
	words := []string{"1984", "19XX", "1XXX", "XX84", "X9XX-02-29", "19XX-01-X1", "19XX-0X", "19XX-XX-XX", "XXc", "XXXd", "XX8d", "198XsX"}
	for range 1500 {
		s := text(r, words, 2)
		n, _, _ := parse.Parse(s)
		wide := false
		for _, p := range pointsOf(n) {
			set, errno := point.Set(p.P)
			if p.Tilde && errno == api.OK {
				set = sets.Clip(sets.Grow(set, point.Radius(p.P.Kind)), 0, api.MaxDay)
			}
			_, ok := image.Starts(p.P.Kind, set)
			wide = wide || errno == api.ErrWide || !ok
		}
		if _, errno := denote.Of(n); (errno == api.ErrWide) != wide || errno != api.OK && !wide {
			t.Fatalf("%q: %d, wide: %v", s, errno, wide)
		}
	}
}

// W4: two expressions may stand in just those relations in which some pair of one stands to some pair of the other; what follows of two relations holds of the third.
func TestThreeExpressions(t *testing.T) {
	r := rand.New(rand.NewSource(4))
	for range 400 {
		a, b, c := text(r, few, 1), text(r, few, 1), text(r, few, 1)
		l, pairs, ok := denoted(t, a)
		m, others, also := denoted(t, b)
		k, thirds, too := denoted(t, c)
		if !ok || !also || !too {
			continue
		}
		found := 0
		for _, p := range pairs {
			for _, q := range others {
				rel, _ := allen.Of(p, q)
				found |= 1 << rel
			}
		}
		first, errno := relate.Relations(l, m)
		if first != found || errno != api.OK {
			t.Fatalf("%q and %q: %v, not %v", a, b, allen.List(first), allen.List(found))
		}
		second, _ := relate.Relations(m, k)
		third, _ := relate.Relations(l, k)
		if follows := compose.Both(first, second); len(others) > 0 && third&^follows != 0 || len(pairs)*len(thirds) == 0 && third != 0 {
			t.Fatalf("%q, %q, %q: %v does not follow", a, b, c, allen.List(third))
		}
	}
}

// W5: what comes certainly ahead ends, in every way, ahead of every start of the other, and has the lesser key.
func TestAhead(t *testing.T) {
	r, count := rand.New(rand.NewSource(5)), 0
	words := append([]string{"1984-04-0X", "1984-03", "1984-08-1X"}, few...)
	for range 1500 {
		a, b := text(r, words, 1), text(r, words, 1)
		l, pairs, ok := denoted(t, a)
		m, others, also := denoted(t, b)
		if !ok || !also {
			continue
		}
		every := len(pairs) > 0 && len(others) > 0
		for _, p := range pairs {
			for _, q := range others {
				every = every && p.T < q.S
			}
		}
		certainly, _ := order.Certainly(l, m)
		if certainly != every {
			t.Fatalf("%q and %q: not %v", a, b, every)
		}
		if !certainly {
			continue
		}
		count++
		p, _ := order.Of(l)
		q, _ := order.Of(m)
		s, _ := told("put b "+a, "put a "+b)
		if _, got := player.Line(s, "list"); order.Compare(p, q) >= 0 || got != "b a" {
			t.Fatalf("%q and %q: keys %v, %v; %q", a, b, p, q, got)
		}
	}
	if count < 50 {
		t.Errorf("%d come certainly ahead", count)
	}
}

// W6: what is left of an expression that is narrowed are just those of its pairs that lie inside one of the other's.
func TestNarrowed(t *testing.T) {
	r := rand.New(rand.NewSource(6))
	words := append([]string{"1984-04-0X/1984-06", "1984-05-0X/1984-05-1X"}, few...)
	for range 800 {
		a, b := words[r.Intn(len(words))], text(r, few, 2)
		l, pairs, ok := denoted(t, a)
		m, others, also := denoted(t, b)
		if !ok || !also {
			continue
		}
		left, errno := narrow.Narrow(l, m)
		count := 0
		for _, p := range pairs {
			inside := slices.ContainsFunc(others, func(q api.Pair) bool { return q.S <= p.S && p.T <= q.T })
			if denote.Has(left, p) != inside {
				t.Fatalf("%q by %q: %v is not %v", a, b, p, inside)
			}
			if inside {
				count++
			}
		}
		if (errno == api.OK) != (count > 0) || errno != api.OK && errno != api.ErrEmpty {
			t.Fatalf("%q by %q: %d", a, b, errno)
		}
		for _, f := range left {
			for _, p := range leaf.Pairs(f, 1000) {
				if !slices.Contains(pairs, p) {
					t.Fatalf("%q by %q: %v is left", a, b, p)
				}
			}
		}
	}
}
