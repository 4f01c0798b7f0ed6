package leaf_test

import (
	"cmp"
	"math"
	"math/rand"
	"slices"
	"testing"

	"lustrum/api"
	"lustrum/leaf"
	"lustrum/runs"
	"lustrum/unit"
)

type set = []api.Run

// rs tells the runs from each first to each second number.
func rs(n ...int) set {
	var s set
	for i := 0; i+1 < len(n); i += 2 {
		s = append(s, api.Run{Lo: n[i], Hi: n[i+1]})
	}
	return s
}

// of and span are leaves, whatever stands in them.
func of(kind int, n ...int) api.Leaf { return api.Leaf{U: kind, A: rs(n...)} }
func span(a, b set) api.Leaf         { return api.Leaf{Span: true, A: a, B: b} }
func pair(s, t int) api.Pair         { return api.Pair{S: s, T: t} }
func isLeaf(f api.Leaf, g api.Leaf) bool {
	return f.Span == g.Span && f.U == g.U && slices.Equal(f.A, g.A) && slices.Equal(f.B, g.B)
}

// spread tells n numbers from lo on, each so far from the other.
func spread(lo, n, step int) set {
	var s set
	for i := range n {
		s = append(s, api.Run{Lo: lo + i*step, Hi: lo + i*step})
	}
	return s
}

// good are leaves that may be, with at most some hundred pairs or so; wrong are others.
var good = []api.Leaf{
	{}, {A: set{}, B: set{}}, {Span: true}, of(0, 5, 5), of(0, 0, 0, 3652424, 3652424), of(1, 0, 3, 119999, 119999), of(2, 0, 0, 7, 9, 39999, 39999), of(3, 0, 0, 1984, 1986, 9999, 9999), of(4, 0, 1, 999, 999), of(5, 0, 0, 99, 99),
	span(rs(1, 3), rs(2, 2)), span(rs(5, 9), rs(1, 4)), span(rs(5, 9), rs(1, 5)), span(rs(5, 9), nil), span(nil, rs(5, 9)), span(rs(0, 0), rs(3652424, 3652424)), span(rs(3652424, 3652424), rs(0, 0)), span(rs(7, 7), rs(7, 7)),
	span(rs(0, 2, 5, 5, 9, 12), rs(1, 1, 6, 7, 10, 10)),
}

var wrong = []api.Leaf{
	{U: -1}, {U: 6}, {U: math.MinInt}, {U: math.MaxInt}, {U: 6, A: rs(0, 0)}, of(0, -1, 0), of(0, 0, 3652425), of(0, 5, 4), of(0, 1, 2, 3, 4), of(0, 5, 6, 1, 2), of(0, math.MinInt, math.MaxInt),
	of(1, 0, 120000), of(1, 120000, 120000), of(2, 40000, 40000), of(3, 10000, 10000), of(3, -5, -5), of(3, 1984, 1985, 1985, 1986), of(4, 0, 1000), of(5, 0, 100), of(5, -1, 5),
	{U: 3, A: rs(1984, 1984), B: rs(1, 2)}, {A: rs(1, 2), B: rs(1, 2)}, {B: rs(0, 0)},
	{Span: true, U: 1}, {Span: true, U: 3, A: rs(1, 3), B: rs(2, 5)}, {Span: true, U: -1, A: rs(1, 3), B: rs(2, 5)},
	span(rs(3, 1), rs(2, 5)), span(rs(1, 3), rs(5, 2)), span(rs(1, 3, 4, 5), rs(2, 9)), span(rs(1, 3), rs(4, 5, 2, 3)), span(rs(-1, 3), rs(2, 5)), span(rs(1, 3), rs(2, 3652425)), span(rs(1, 3652425), rs(2, 5)), span(rs(1, 3), rs(-2, 5)), span(rs(1, 3), rs(math.MinInt, math.MaxInt)),
}

// pairs tells the pairs of a leaf that may be, by the document's words.
func pairs(f api.Leaf) []api.Pair {
	var l []api.Pair
	for _, a := range f.A {
		for i := a.Lo; i <= a.Hi; i++ {
			if !f.Span {
				first, _ := unit.First(f.U, i)
				last, _ := unit.Last(f.U, i)
				l = append(l, pair(first, last))
				continue
			}
			for _, b := range f.B {
				for n := max(i, b.Lo); n <= b.Hi; n++ {
					l = append(l, pair(i, n))
				}
			}
		}
	}
	slices.SortFunc(l, func(p, q api.Pair) int { return cmp.Or(cmp.Compare(p.S, q.S), cmp.Compare(p.T, q.T)) })
	return l
}

// byChance tells leaves that may be.
func byChance(n int) []api.Leaf {
	r := rand.New(rand.NewSource(14))
	some := func(most int) set {
		var s set
		for range r.Intn(5) {
			lo := r.Intn(most)
			s = append(s, api.Run{Lo: lo, Hi: min(most-1, lo+r.Intn(5))})
		}
		return runs.Make(s)
	}
	l := slices.Clone(good)
	for range n {
		if kind := r.Intn(6); r.Intn(3) > 0 {
			l = append(l, span(some(30), some(30)))
		} else {
			l = append(l, api.Leaf{U: kind, A: some(unit.Count(kind))})
		}
	}
	return l
}

// copied shares nothing with the leaf.
func copied(f api.Leaf) api.Leaf {
	f.A, f.B = slices.Clone(f.A), slices.Clone(f.B)
	return f
}

// P14.1
func TestSane(t *testing.T) {
	for _, f := range byChance(200) {
		if !leaf.Sane(f) {
			t.Errorf("%v may be", f)
		}
	}
	for _, f := range wrong {
		if leaf.Sane(f) {
			t.Errorf("%v may not be", f)
		}
	}
	for kind := range 6 {
		if n := unit.Count(kind) - 1; !leaf.Sane(of(kind, 0, n)) || leaf.Sane(of(kind, 0, n+1)) || leaf.Sane(of(kind, -1, n)) {
			t.Errorf("all units of kind %d", kind)
		}
	}
	if !leaf.Sane(span(rs(0, 3652424), rs(0, 3652424))) {
		t.Error("all days")
	}
}

// P14.1: what may not be has no pair.
func TestWrongLeaves(t *testing.T) {
	for _, f := range wrong {
		before := copied(f)
		starts, ok := leaf.Starts(f)
		ends, also := leaf.Ends(f)
		if !leaf.Empty(f) || len(starts)+len(ends) > 0 || !ok || !also || len(leaf.Pairs(f, 9)) > 0 || !isLeaf(leaf.Tidy(f), api.Leaf{}) {
			t.Errorf("%v has no pair", f)
		}
		for _, n := range []int{0, 1, 2, 3, 5, 31, 724641, 725006, math.MinInt, math.MaxInt} {
			for _, m := range []int{0, 2, 3, 5, 30, 725006} {
				if leaf.Has(f, pair(n, m)) || leaf.Covers(f, n) {
					t.Errorf("%v has nothing of %d, %d", f, n, m)
				}
			}
		}
		if !isLeaf(f, before) {
			t.Errorf("%v was changed", before)
		}
	}
}

// P14.2: pairs there are, and pairs and days there are not.
func TestAsked(t *testing.T) {
	for _, f := range byChance(400) {
		l, before := pairs(f), copied(f)
		if leaf.Empty(f) != (len(l) == 0) {
			t.Errorf("Empty of %v is not %v", f, len(l) == 0)
		}
		days := []int{math.MinInt, -1, 0, 1, 31, 3652424, 3652425, math.MaxInt}
		for n := range 40 {
			days = append(days, n)
		}
		for _, p := range l[:min(len(l), 60)] {
			days = append(days, p.S-1, p.S, p.S+1, p.T-1, p.T, p.T+1, (p.S+p.T)/2)
			for _, q := range []api.Pair{p, pair(p.S-1, p.T), pair(p.S+1, p.T), pair(p.S, p.T-1), pair(p.S, p.T+1), pair(p.T, p.S), pair(p.S+1, p.T+1)} {
				if leaf.Has(f, q) != slices.Contains(l, q) {
					t.Errorf("Has(%v, %v) is not %v", f, q, slices.Contains(l, q))
				}
			}
		}
		for _, day := range days {
			covered := slices.ContainsFunc(l, func(p api.Pair) bool { return p.S <= day && day <= p.T })
			if leaf.Covers(f, day) != covered {
				t.Errorf("Covers(%v, %d) is not %v", f, day, covered)
			}
		}
		if !isLeaf(f, before) {
			t.Errorf("%v was changed", before)
		}
	}
}

// P14.2: all pairs of small days of spans, and pairs far out.
func TestHas(t *testing.T) {
	for _, f := range byChance(100) {
		l := pairs(f)
		for s := -1; s < 33; s++ {
			for n := -1; n < 33; n++ {
				if leaf.Has(f, pair(s, n)) != slices.Contains(l, pair(s, n)) {
					t.Errorf("Has(%v, %d %d) is not %v", f, s, n, !leaf.Has(f, pair(s, n)))
				}
			}
		}
		for _, p := range []api.Pair{pair(math.MinInt, math.MaxInt), pair(math.MaxInt, math.MinInt), pair(0, math.MaxInt), pair(math.MinInt, 0), pair(-1, -1), pair(3652425, 3652425)} {
			if leaf.Has(f, p) {
				t.Errorf("Has(%v, %v)", f, p)
			}
		}
	}
}

// P14.3: starts, ends, and the first pairs.
func TestStartsEndsAndPairs(t *testing.T) {
	for _, f := range byChance(400) {
		l, before := pairs(f), copied(f)
		var s, e []int
		for _, p := range l {
			s, e = append(s, p.S), append(e, p.T)
		}
		if got, ok := leaf.Starts(f); !slices.Equal(got, runs.Of(s)) || !ok {
			t.Errorf("Starts of %v: %v, %v, not %v", f, got, ok, runs.Of(s))
		}
		if got, ok := leaf.Ends(f); !slices.Equal(got, runs.Of(e)) || !ok {
			t.Errorf("Ends of %v: %v, %v, not %v", f, got, ok, runs.Of(e))
		}
		for _, n := range []int{math.MinInt, -1, 0, 1, 2, 3, 10, 999, 1000, 1001, math.MaxInt} {
			if got := leaf.Pairs(f, n); !slices.Equal(got, l[:max(0, min(n, len(l), 1000))]) {
				t.Errorf("Pairs of %v, %d: %v", f, n, got)
			}
		}
		if !isLeaf(f, before) {
			t.Errorf("%v was changed", before)
		}
	}
}

// P14.3: more than 1000 pairs, of each kind of family.
func TestManyPairs(t *testing.T) {
	all := rs(0, 3652424)
	for _, f := range []api.Leaf{of(0, 0, 3652424), of(1, 7, 119999), of(2, 0, 39999), of(3, 9000, 9999), of(3, 8999, 9999), of(4, 0, 999), span(all, all), span(rs(0, 50), rs(0, 50)), span(rs(0, 43), rs(0, 50)), span(all, rs(3652400, 3652424)), span(all, rs(700, 700)), span(rs(0, 50), rs(25, 50, 100, 3652424))} {
		for _, n := range []int{1, 5, 999, 1000, 1001, math.MaxInt} {
			got := leaf.Pairs(f, n)
			if len(got) > min(n, 1000) || len(got) < min(n, 700) {
				t.Errorf("Pairs of %v, %d: %d", f, n, len(got))
			}
			for i, p := range got {
				if !leaf.Has(f, p) || i > 0 && (p.S < got[i-1].S || p.S == got[i-1].S && p.T <= got[i-1].T) {
					t.Fatalf("pair %d of %v: %v", i, f, p)
				}
			}
		}
	}
	if got := leaf.Pairs(span(all, all), 2000); len(got) != 1000 || got[0] != pair(0, 0) || got[999] != pair(0, 999) {
		t.Errorf("pairs of all days: %d", len(got))
	}
}

// P14.3: 400 runs of starts or ends, and 401; those that are in no pair do not count.
func TestTooManyRuns(t *testing.T) {
	all := rs(0, 3652424)
	many, more := spread(100, 400, 2), spread(100, 401, 2) // to 898, to 900
	for _, x := range []struct {
		f            api.Leaf
		starts, ends int
	}{
		{span(many, many), 400, 400}, {span(more, more), -1, -1}, {span(more, many), 400, 400}, {span(many, more), 400, -1}, {span(more, rs(899, 899)), 400, 1}, {span(more, rs(900, 900)), -1, 1}, {span(more, rs(99, 99)), 0, 0},
		{span(rs(101, 101), more), 1, 400}, {span(rs(100, 100), more), 1, -1}, {span(all, more), 1, -1}, {span(more, all), -1, 1}, {span(rs(901, 905), more), 0, 0}, {span(all, all), 1, 1},
		{api.Leaf{A: many}, 400, 400}, {api.Leaf{A: more}, -1, -1}, {api.Leaf{A: all}, 1, 1},
		{of(1, 0, 399), 400, 400}, {of(1, 0, 400), -1, -1}, {of(2, 0, 399), 400, 400}, {of(2, 0, 400), -1, -1}, {of(3, 9600, 9999), 400, 400}, {of(3, 9599, 9999), -1, -1}, {of(4, 0, 399), 400, 400}, {of(4, 0, 400), -1, -1}, {of(5, 0, 99), 100, 100},
	} {
		starts, ok := leaf.Starts(x.f)
		if ok != (x.starts >= 0) || len(starts) != max(0, x.starts) {
			t.Errorf("Starts of %d and %d runs of kind %d: %d, %v", len(x.f.A), len(x.f.B), x.f.U, len(starts), ok)
		}
		ends, ok := leaf.Ends(x.f)
		if ok != (x.ends >= 0) || len(ends) != max(0, x.ends) {
			t.Errorf("Ends of %d and %d runs of kind %d: %d, %v", len(x.f.A), len(x.f.B), x.f.U, len(ends), ok)
		}
	}
}

// P14.4 and P14.5: what is tidied has the same pairs, and nothing that is in none.
func TestTidy(t *testing.T) {
	for _, f := range byChance(600) {
		l, before := pairs(f), copied(f)
		g := leaf.Tidy(f)
		want := f
		if len(l) == 0 {
			want = api.Leaf{}
		} else if f.Span {
			var s, e []int
			for _, p := range l {
				s, e = append(s, p.S), append(e, p.T)
			}
			want = span(runs.Of(s), runs.Of(e))
		}
		if !isLeaf(g, want) || !leaf.Sane(g) || !slices.Equal(pairs(g), l) {
			t.Errorf("Tidy of %v: %v, not %v", f, g, want)
		}
		if !isLeaf(leaf.Tidy(g), g) {
			t.Errorf("Tidy of %v does not stay", g)
		}
		if !isLeaf(f, before) {
			t.Errorf("%v was changed", before)
		}
	}
}

// The document's example.
func TestExample(t *testing.T) {
	f := span(rs(1, 3), rs(2, 2))
	if l := leaf.Pairs(f, 9); !slices.Equal(l, []api.Pair{pair(1, 2), pair(2, 2)}) {
		t.Error(l)
	}
	if g := leaf.Tidy(f); !isLeaf(g, span(rs(1, 2), rs(2, 2))) {
		t.Error(g)
	}
}
