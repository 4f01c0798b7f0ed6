package narrow_test

import (
	"cmp"
	"math"
	"math/rand"
	"slices"
	"testing"

	"lustrum/api"
	"lustrum/civil"
	"lustrum/denote"
	"lustrum/leaf"
	"lustrum/narrow"
	"lustrum/parse"
	"lustrum/runs"
	"lustrum/unit"
)

type set = []api.Run

// rs tells the runs from each first to each second number.
func rs(n ...int) set {
	var s set
	for i := 0; i+1 < len(n); i += 2 {
		s = append(s, api.Run{Lo: n[i], Hi: n[i+1]})
	}
	return s
}

func of(kind int, n ...int) api.Leaf { return api.Leaf{U: kind, A: rs(n...)} }
func span(a, b set) api.Leaf         { return api.Leaf{Span: true, A: a, B: b} }
func pair(s, t int) api.Pair         { return api.Pair{S: s, T: t} }

// spread tells n numbers from lo on, each so far from the other.
func spread(lo, n, step int) set {
	var s set
	for i := range n {
		s = append(s, api.Run{Lo: lo + i*step, Hi: lo + i*step})
	}
	return s
}

// denoted is what the expression of a text means.
func denoted(t *testing.T, s string) []api.Leaf {
	t.Helper()
	n, _, errno := parse.Parse(s)
	l, other := denote.Of(n)
	if errno != api.OK || other != api.OK {
		t.Fatalf("%q: %d, %d", s, errno, other)
	}
	return l
}

// day is a date's number.
func day(y, m, d int) int {
	n, _ := civil.Number(y, m, d)
	return n
}

// pairs tells the pairs of leaves that may be, each once, sorted.
func pairs(l []api.Leaf) []api.Pair {
	var all []api.Pair
	for _, f := range l {
		for _, a := range f.A {
			for i := a.Lo; i <= a.Hi; i++ {
				if !f.Span {
					first, _ := unit.First(f.U, i)
					last, _ := unit.Last(f.U, i)
					all = append(all, pair(first, last))
					continue
				}
				for _, b := range f.B {
					for n := max(i, b.Lo); n <= b.Hi; n++ {
						all = append(all, pair(i, n))
					}
				}
			}
		}
	}
	slices.SortFunc(all, func(p, q api.Pair) int { return cmp.Or(cmp.Compare(p.S, q.S), cmp.Compare(p.T, q.T)) })
	return slices.Compact(all)
}

// checkLeaves asks that each leaf of an answer may be, has a pair, and has not too many starts or ends.
func checkLeaves(t *testing.T, l []api.Leaf, told ...any) {
	t.Helper()
	for _, f := range l {
		_, ok := leaf.Starts(f)
		_, also := leaf.Ends(f)
		if !leaf.Sane(f) || leaf.Empty(f) || !ok || !also {
			t.Errorf("of %v: %v", told, f)
		}
	}
}

// check holds what is left against the pairs that are wanted.
func check(t *testing.T, l, m []api.Leaf, want []api.Pair, told ...any) {
	t.Helper()
	got, errno := narrow.Narrow(l, m)
	checkLeaves(t, got, told...)
	if len(want) == 0 {
		if errno != api.ErrEmpty || len(got) > 0 {
			t.Errorf("Narrow of %v: %v, %d, not empty", told, got, errno)
		}
		return
	}
	if errno != api.OK || !slices.Equal(pairs(got), want) {
		t.Errorf("Narrow of %v: %v, %d", told, got, errno)
	}
}

// inside tells the pairs of l that lie inside one of m, one by one.
func inside(l, m []api.Leaf) []api.Pair {
	var left []api.Pair
	others := pairs(m)
	for _, p := range pairs(l) {
		if slices.ContainsFunc(others, func(q api.Pair) bool { return q.S <= p.S && p.T <= q.T }) {
			left = append(left, p)
		}
	}
	return left
}

// P22.1 and P22.2: expressions.
func TestExpressions(t *testing.T) {
	for _, x := range []struct{ a, b, want string }{
		{"198X", "1983/1986", "[1983, 1984, 1985, 1986]"}, {"1984-0X", "1984s1", "[1984-03, 1984-04, 1984-05]"}, {"1984", "198d", "1984"}, {"198d", "1984", ""}, {"1984", "1984", "1984"}, {"19X4", "[1900/1920, 199d]", "[1904, 1914, 1994]"},
		{"1984", "1984-05/..", ""}, {"1984-05-XX", "[1984-05-03, 1984-05-09/1984-05-11]", "[1984-05-03, 1984-05-09, 1984-05-10, 1984-05-11]"}, {"198X/198X", "1984/1985", "[1984, 1985, 1984/1985]"}, {"198X/198X", "198X", "198X"}, {"1984/..", "1984", ""}, {"1984/..", "1984/..", "1984/.."},
		{"1984s4", "[1984, 1985]", ""}, {"1984s4", "1984/1985", "1984s4"}, {"[1984, 1985-05, 1990]", "1984/1985", "[1984, 1985-05]"}, {"1985/1984", "*/*", ""}, {"1984", "1985/1984", ""}, {"1984", "2023-02-3X", ""}, {"2023-02-3X", "*/*", ""}, {"1984~", "1984/..", "[1984, 1985, 1986]"},
		{"19c", "19XX", ""}, {"19XX", "19c", "19XX"}, {"198d", "198X/198X", "198d"}, {"1984-01/1984-03~", "1984s4", ""}, {"1984-01/1984-03~", "1984-01/1984-03-30", "1984-01/1984-02"}, {"1984-01/1984-03~", "1983s4", "1984-01/1984-02"},
	} {
		var want []api.Pair
		if x.want != "" {
			want = pairs(denoted(t, x.want))
		}
		check(t, denoted(t, x.a), denoted(t, x.b), want, x.a, x.b)
	}
	got, errno := narrow.Narrow(denoted(t, "1984/*"), denoted(t, "1984"))
	if all := pairs(got); errno != api.OK || len(all) != 366 || all[0] != pair(724641, 724641) || all[365] != pair(724641, day(1984, 12, 31)) {
		t.Errorf("1984/* by 1984: %v, %d", got, errno)
	}
}

// some tells leaves by chance, of small days.
func some(r *rand.Rand) []api.Leaf {
	numbers := func(most, n, long int) set {
		var s set
		for range 1 + r.Intn(n) {
			lo := r.Intn(most)
			s = append(s, api.Run{Lo: lo, Hi: min(most-1, lo+r.Intn(long))})
		}
		return runs.Make(s)
	}
	var l []api.Leaf
	for range r.Intn(4) {
		switch r.Intn(5) {
		case 0:
			l = append(l, api.Leaf{U: api.Month, A: numbers(3, 2, 2)})
		case 1:
			l = append(l, api.Leaf{A: numbers(70, 4, 12)})
		case 2:
			l = append(l, span(numbers(20, 3, 4), numbers(20, 3, 4)))
		case 3:
			l = append(l, span(numbers(70, 3, 5), numbers(90, 3, 9)))
		case 4:
			l = append(l, span(numbers(40, 1, 1), numbers(80, 1, 1)))
		}
	}
	return l
}

// P22.1 to P22.3: leaves by chance, pair by pair.
func TestByChance(t *testing.T) {
	r := rand.New(rand.NewSource(22))
	for range 3000 {
		l, m := some(r), some(r)
		want := inside(l, m)
		check(t, l, m, want, l, m)
		if got, errno := narrow.Narrow(l, m); errno == api.OK {
			check(t, got, m, want, l, "twice by", m)
		}
		check(t, l, []api.Leaf{span(rs(0, api.MaxDay), rs(0, api.MaxDay))}, pairs(l), l, "by what has no bounds")
	}
}

// P22.2: units of all kinds about the same days.
func TestUnits(t *testing.T) {
	r := rand.New(rand.NewSource(221))
	unitsOf := func() api.Leaf {
		kind := 1 + r.Intn(5)
		i, _ := unit.Of(kind, 724641+r.Intn(3000))
		lo := max(0, i-r.Intn(5))
		return of(kind, lo, min(lo+r.Intn(20), unit.Count(kind)-1))
	}
	for range 1500 {
		l, m := []api.Leaf{unitsOf(), unitsOf()}, []api.Leaf{unitsOf(), unitsOf(), unitsOf()}
		if r.Intn(3) == 0 {
			p := pairs(l)[0]
			l = append(l, span(rs(p.S, p.S, p.S+40, p.S+41), rs(p.T-1, p.T, p.T+60, p.T+60)))
		}
		check(t, l, m, inside(l, m), l, m)
	}
}

// P22.1: pairs one by one, and far ones.
func TestInside(t *testing.T) {
	r := rand.New(rand.NewSource(222))
	for range 400 {
		m := some(r)
		others := pairs(m)
		for s := -1; s < 95; s += 1 + r.Intn(4) {
			for e := -1; e < 95; e += 1 + r.Intn(4) {
				want := s <= e && slices.ContainsFunc(others, func(q api.Pair) bool { return q.S <= s && e <= q.T })
				if narrow.Inside(m, pair(s, e)) != want {
					t.Errorf("Inside(%v, %d %d) is not %v", m, s, e, want)
				}
			}
		}
	}
	all := []api.Leaf{span(rs(0, api.MaxDay), rs(0, api.MaxDay))}
	for p, want := range map[api.Pair]bool{
		{S: 0, T: 0}: true, {S: 0, T: api.MaxDay}: true, {S: api.MaxDay, T: api.MaxDay}: true, {S: 1, T: 0}: false, {S: -1, T: 5}: false, {S: 5, T: api.MaxDay + 1}: false,
		{S: math.MinInt, T: math.MaxInt}: false, {S: math.MaxInt, T: math.MinInt}: false, {S: math.MinInt, T: math.MinInt}: false, {S: math.MaxInt, T: math.MaxInt}: false,
	} {
		if narrow.Inside(all, p) != want {
			t.Errorf("Inside all days, %v, is not %v", p, want)
		}
		if narrow.Inside(nil, p) {
			t.Errorf("Inside nothing, %v", p)
		}
	}
	year := []api.Leaf{{}, of(3, 1984, 1984), of(3, 10000, 10000)}
	first, last := day(1984, 1, 1), day(1984, 12, 31)
	for p, want := range map[api.Pair]bool{{S: first, T: last}: true, {S: first - 1, T: last}: false, {S: first, T: last + 1}: false, {S: first + 9, T: first + 9}: true, {S: last, T: first}: false, {S: last, T: last}: true, {S: last + 1, T: last + 1}: false} {
		if narrow.Inside(year, p) != want {
			t.Errorf("Inside 1984, %v, is not %v", p, want)
		}
	}
	wide := []api.Leaf{of(3, 0, 9999), {A: spread(0, 2000, 2)}}
	if !narrow.Inside(wide, pair(first, last)) || !narrow.Inside(wide, pair(4, 4)) || narrow.Inside(wide, pair(last, last+1)) || !narrow.Inside([]api.Leaf{span(spread(1, 500, 2), spread(1, 500, 2))}, pair(2, 998)) {
		t.Error("Inside what has many starts")
	}
}

// P22.2: leaves with too many starts or ends, ahead of all else.
func TestTooWideLeaves(t *testing.T) {
	year := of(3, 1984, 1984)
	odd := spread(1, 401, 2)
	for _, f := range []api.Leaf{{A: odd}, of(3, 0, 400), of(1, 5, 405), span(odd, rs(900, 900)), span(rs(0, 0), odd)} {
		for _, x := range [][2][]api.Leaf{{{f}, {year}}, {{year}, {f}}, {{f}, {f}}, {{year, f}, {year}}, {{year}, {year, f, year}}, {{f}, nil}, {nil, {f}}, {{{}}, {f}}} {
			if got, errno := narrow.Narrow(x[0], x[1]); len(got) > 0 || errno != api.ErrWide {
				t.Errorf("Narrow of %d and %d leaves: %v, %d", len(x[0]), len(x[1]), got, errno)
			}
		}
	}
	for _, f := range []api.Leaf{{A: odd[:400]}, of(3, 0, 399), span(odd[:400], odd[:400]), span(odd, rs(800, 800)), {A: rs(0, api.MaxDay)}} {
		got, errno := narrow.Narrow([]api.Leaf{f}, denoted(t, "*/*"))
		checkLeaves(t, got, "as many as there may be")
		if errno != api.OK || len(got) == 0 {
			t.Errorf("Narrow of %d runs: %d", len(f.A), errno)
		}
	}
}

// P22.2: what is left has too many starts, or ends, or just as many as it may have.
func TestTooWideAnswers(t *testing.T) {
	one, other := api.Leaf{A: spread(1, 400, 4)}, api.Leaf{A: spread(3, 400, 4)}
	all := api.Leaf{A: rs(0, 9000)}
	for _, x := range []struct {
		l, m []api.Leaf
		want api.Errno
	}{
		{[]api.Leaf{all}, []api.Leaf{one}, api.OK}, {[]api.Leaf{all}, []api.Leaf{one, other}, api.ErrWide}, {[]api.Leaf{one, other}, []api.Leaf{all}, api.ErrWide}, {[]api.Leaf{one}, []api.Leaf{one, other}, api.OK}, {[]api.Leaf{one, of(0, 1601, 1601)}, []api.Leaf{all}, api.ErrWide},
		{[]api.Leaf{one, of(0, 2, 2)}, []api.Leaf{all}, api.OK}, {[]api.Leaf{of(3, 0, 399), of(3, 400, 400)}, denoted(t, "*/*"), api.ErrWide}, {[]api.Leaf{of(3, 0, 399), of(3, 400, 400)}, denoted(t, "../0399"), api.OK},
		{[]api.Leaf{span(rs(0, 0), one.A), span(rs(0, 0), other.A)}, denoted(t, "*/*"), api.ErrWide}, {[]api.Leaf{span(one.A, rs(5000, 5000)), span(other.A, rs(5000, 5000))}, denoted(t, "*/*"), api.ErrWide}, {[]api.Leaf{span(one.A, rs(5000, 5000)), span(other.A, rs(4000, 4000))}, []api.Leaf{span(rs(0, 0), rs(4999, 4999))}, api.OK},
		{[]api.Leaf{one, other}, []api.Leaf{span(rs(90000, 90000), rs(90005, 90005))}, api.ErrEmpty},
	} {
		got, errno := narrow.Narrow(x.l, x.m)
		checkLeaves(t, got, "many runs")
		if errno != x.want || errno != api.OK && len(got) > 0 {
			t.Errorf("Narrow of %d and %d leaves: %d, not %d", len(x.l), len(x.m), errno, x.want)
		}
		if errno == api.OK && !slices.Equal(pairs(got), insideFew(x.l, x.m)) {
			t.Errorf("Narrow of %d and %d leaves has other pairs", len(x.l), len(x.m))
		}
	}
}

// insideFew is what inside is, of leaves one of which has all days.
func insideFew(l, m []api.Leaf) []api.Pair {
	var left []api.Pair
	for _, p := range pairs(l) {
		if narrow.Inside(m, p) {
			left = append(left, p)
		}
	}
	return left
}

// P22.2: more than 400 runs of days are left of one leaf, but another one fills the gaps: there are not too many starts.
func TestManyRunsOfOneLeaf(t *testing.T) {
	m := []api.Leaf{{A: spread(1, 400, 4)}, {A: spread(3, 400, 4)}, {A: spread(2, 400, 4)}, {A: spread(4, 400, 4)}}
	l := []api.Leaf{{A: rs(1, 1600)}, span(rs(1, 1600), rs(1, 1600))}
	got, errno := narrow.Narrow(l, m)
	checkLeaves(t, got, "all gaps filled")
	var want []api.Pair
	for n := 1; n <= 1600; n++ {
		want = append(want, pair(n, n))
	}
	if errno != api.OK || !slices.Equal(pairs(got), want) {
		t.Errorf("%v, %d", got, errno)
	}
	if got, errno = narrow.Narrow(l[:1], m[:2]); errno != api.ErrWide || len(got) > 0 {
		t.Errorf("800 runs: %d", errno)
	}
	// Days with 399 gaps, by days with 399 others, are 799 runs; a span of the days in the first gaps leaves the others alone.
	var days, gaps, known set
	for i := range 400 {
		days = append(days, api.Run{Lo: max(1, 8*i-3), Hi: 8*i + 3})
		known = append(known, api.Run{Lo: 8*i + 1, Hi: 8*i + 7})
		if i < 399 {
			gaps = append(gaps, api.Run{Lo: 8*i + 4, Hi: 8*i + 4})
		}
	}
	l, m = []api.Leaf{{A: days}, span(gaps, gaps)}, []api.Leaf{{A: known}}
	got, errno = narrow.Narrow(l, m)
	checkLeaves(t, got, "799 runs")
	if errno != api.OK || !slices.Equal(pairs(got), insideFew(l, m)) {
		t.Errorf("799 runs, half of the gaps filled: %d", errno)
	}
	if got, errno = narrow.Narrow(l[:1], m); errno != api.ErrWide || len(got) > 0 {
		t.Errorf("799 runs: %d", errno)
	}
}

// P22.2: leaves that have no pairs, and that may not be.
func TestNothing(t *testing.T) {
	year := []api.Leaf{of(3, 1984, 1984)}
	for _, f := range []api.Leaf{
		{}, {Span: true}, {U: 7, A: rs(1, 5)}, of(3, 10000, 10001), of(3, 5, 4), of(0, -5, 5), of(0, 1, 2, 3, 4), {U: 3, A: rs(1, 2), B: rs(1, 1)}, span(rs(5, 9), rs(1, 4)), span(rs(-1, 9), rs(1, 14)), span(rs(1, 9), nil), span(nil, rs(1, 2)), {Span: true, U: 1, A: rs(1, 2), B: rs(3, 4)}, of(0, math.MinInt, math.MaxInt),
	} {
		check(t, []api.Leaf{f}, year, nil, f, "by a year")
		check(t, year, []api.Leaf{f}, nil, "a year by", f)
		check(t, append([]api.Leaf{f}, year...), append([]api.Leaf{f}, year...), pairs(year), f, "and a year, by the same")
		if narrow.Inside([]api.Leaf{f}, pair(2, 2)) || narrow.Inside([]api.Leaf{f}, pair(day(1984, 5, 5), day(1984, 5, 5))) {
			t.Errorf("nothing lies inside %v", f)
		}
	}
	check(t, nil, nil, nil, "nothing by nothing")
	check(t, year, nil, nil, "a year by nothing")
	check(t, nil, year, nil, "nothing by a year")
}

// R3: nothing that is handed in is changed.
func TestNothingIsChanged(t *testing.T) {
	text := "[1985, 1984-05-0X, 1984-04-0X, 198X, 1984/*, 1982, 198d]"
	l, m, before := denoted(t, text), denoted(t, text), denoted(t, text)
	narrow.Narrow(l, m)
	narrow.Inside(m, pair(724641, 724642))
	same := func(f, g api.Leaf) bool {
		return f.Span == g.Span && f.U == g.U && slices.Equal(f.A, g.A) && slices.Equal(f.B, g.B)
	}
	if !slices.EqualFunc(l, before, same) || !slices.EqualFunc(m, before, same) {
		t.Error("leaves were changed")
	}
}
