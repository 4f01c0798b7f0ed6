package cover_test

import (
	"math"
	"math/rand"
	"slices"
	"testing"

	"lustrum/api"
	"lustrum/civil"
	"lustrum/cover"
	"lustrum/denote"
	"lustrum/parse"
	"lustrum/runs"
	"lustrum/unit"
)

type set = []api.Run

// rs tells the runs from each first to each second number.
func rs(n ...int) set {
	var s set
	for i := 0; i+1 < len(n); i += 2 {
		s = append(s, api.Run{Lo: n[i], Hi: n[i+1]})
	}
	return s
}

func of(kind int, n ...int) api.Leaf { return api.Leaf{U: kind, A: rs(n...)} }
func span(a, b set) api.Leaf         { return api.Leaf{Span: true, A: a, B: b} }

// denoted is what the expression of a text means.
func denoted(t *testing.T, s string) []api.Leaf {
	t.Helper()
	n, _, errno := parse.Parse(s)
	l, other := denote.Of(n)
	if errno != api.OK || other != api.OK {
		t.Fatalf("%q: %d, %d", s, errno, other)
	}
	return l
}

// day is a date's number.
func day(y, m, d int) int {
	n, _ := civil.Number(y, m, d)
	return n
}

// check holds the possible and the certain days against those that are wanted; sure is nil where there are no pairs.
func check(t *testing.T, l []api.Leaf, days set, some bool, sure set, told ...any) {
	t.Helper()
	if got, errno := cover.Days(l); errno != api.OK || !slices.Equal(got, days) {
		t.Errorf("Days of %v: %v, %d, not %v", told, got, errno, days)
	}
	want := api.OK
	if !some {
		want = api.ErrEmpty
	}
	if got, errno := cover.Sure(l); errno != want || !slices.Equal(got, sure) {
		t.Errorf("Sure of %v: %v, %d, not %v, %d", told, got, errno, sure, want)
	}
	for _, s := range []set{days, sure} {
		for _, r := range s {
			for _, n := range []int{r.Lo - 1, r.Lo, r.Lo + 1, r.Hi - 1, r.Hi, r.Hi + 1, (r.Lo + r.Hi) / 2} {
				if cover.Possible(l, n) != runs.Has(days, n) {
					t.Errorf("Possible of %v, %d is not %v", told, n, runs.Has(days, n))
				}
				if cover.Certain(l, n) != runs.Has(sure, n) {
					t.Errorf("Certain of %v, %d is not %v", told, n, runs.Has(sure, n))
				}
			}
		}
	}
	for _, n := range []int{math.MinInt, -1, api.MaxDay + 1, math.MaxInt} {
		if cover.Possible(l, n) || cover.Certain(l, n) {
			t.Errorf("%d is no day of %v", n, told)
		}
	}
}

// P17.1 and P17.2: expressions.
func TestExpressions(t *testing.T) {
	year := rs(day(1984, 1, 1), day(1984, 12, 31))
	for _, x := range []struct {
		s          string
		days, sure set
	}{
		{"1984-01/1984-03~", rs(day(1984, 1, 1), day(1984, 4, 30)), rs(day(1984, 1, 1), day(1984, 2, 29))},
		{"1984", year, year}, {"[1984, 1984/1984]", year, year},
		{"1984/1986", rs(day(1984, 1, 1), day(1986, 12, 31)), rs(day(1984, 1, 1), day(1986, 12, 31))},
		{"[1984, 1986]", rs(day(1984, 1, 1), day(1984, 12, 31), day(1986, 1, 1), day(1986, 12, 31)), nil},
		{"[1984, 1985]", rs(day(1984, 1, 1), day(1985, 12, 31)), nil},
		{"[1984, 1984-05/1985, 198d]", rs(day(1980, 1, 1), day(1989, 12, 31)), rs(day(1984, 5, 1), day(1984, 12, 31))},
		{"[1984-05, 1984-05-31/1984-07]", rs(day(1984, 5, 1), day(1984, 7, 31)), rs(day(1984, 5, 31), day(1984, 5, 31))},
		{"19X4", rs(day(1904, 1, 1), day(1904, 12, 31), day(1914, 1, 1), day(1914, 12, 31), day(1924, 1, 1), day(1924, 12, 31), day(1934, 1, 1), day(1934, 12, 31), day(1944, 1, 1), day(1944, 12, 31), day(1954, 1, 1), day(1954, 12, 31), day(1964, 1, 1), day(1964, 12, 31), day(1974, 1, 1), day(1974, 12, 31), day(1984, 1, 1), day(1984, 12, 31), day(1994, 1, 1), day(1994, 12, 31)), nil},
		{"19X4/1990", rs(day(1904, 1, 1), day(1990, 12, 31)), rs(day(1984, 1, 1), day(1990, 12, 31))},
		{"1984/*", rs(day(1984, 1, 1), api.MaxDay), rs(day(1984, 1, 1), day(1984, 1, 1))},
		{"*/1984", rs(0, day(1984, 12, 31)), rs(day(1984, 12, 31), day(1984, 12, 31))},
		{"*/*", rs(0, api.MaxDay), nil}, {"../..", rs(0, api.MaxDay), rs(0, api.MaxDay)}, {"*/..", rs(0, api.MaxDay), rs(api.MaxDay, api.MaxDay)}, {"../*", rs(0, api.MaxDay), rs(0, 0)},
		{"[1985/1984, 1984, 2023-02-3X]", year, year}, {"1984~", rs(day(1982, 1, 1), day(1986, 12, 31)), nil}, {"XXXX-XX-XX", rs(0, api.MaxDay), nil}, {"1984-05-06", rs(day(1984, 5, 6), day(1984, 5, 6)), rs(day(1984, 5, 6), day(1984, 5, 6))},
	} {
		check(t, denoted(t, x.s), x.days, true, x.sure, x.s)
	}
	for _, s := range []string{"1985/1984", "2023-02-3X", "[2023-02-3X, 1985/1984]", "2023-02-3X/1984"} {
		check(t, denoted(t, s), nil, false, nil, s)
	}
}

// P17.1 and P17.2: nothing, and families that may not be.
func TestNothing(t *testing.T) {
	wrong := []api.Leaf{
		{}, {Span: true}, {U: 7, A: rs(1, 5)}, of(3, 10000, 10001), of(3, 5, 4), of(0, -5, 5), of(0, 1, 2, 3, 4), {U: 3, A: rs(1, 2), B: rs(1, 1)}, span(rs(5, 9), rs(1, 4)), span(rs(-1, 9), rs(1, 14)), span(rs(1, 9), nil), span(nil, rs(1, 2)),
		{Span: true, U: 1, A: rs(1, 2), B: rs(3, 4)}, span(rs(1, 2), rs(3, api.MaxDay+1)), of(0, math.MinInt, math.MaxInt),
	}
	check(t, nil, nil, false, nil, "nothing")
	check(t, wrong, nil, false, nil, "all that have no pair")
	for _, f := range wrong {
		for n := -1; n < 12; n++ {
			if cover.Possible([]api.Leaf{f}, n) || cover.Certain([]api.Leaf{f}, n) {
				t.Errorf("%v has no day %d", f, n)
			}
		}
		check(t, []api.Leaf{f, of(0, 3, 3), f}, rs(3, 3), true, rs(3, 3), f, "and a day")
	}
}

// P17.2: 400 runs of days, and 401.
func TestTooWide(t *testing.T) {
	spread := func(lo, n, step int) set {
		var s set
		for i := range n {
			s = append(s, api.Run{Lo: lo + i*step, Hi: lo + i*step})
		}
		return s
	}
	many, more := api.Leaf{A: spread(100, 400, 2)}, api.Leaf{A: spread(100, 401, 2)}
	for _, x := range []struct {
		l    []api.Leaf
		runs int
	}{
		{[]api.Leaf{many}, 400}, {[]api.Leaf{more}, -1}, {[]api.Leaf{many, of(0, 899, 899)}, 400}, {[]api.Leaf{many, of(0, 900, 900)}, -1}, {[]api.Leaf{more, of(0, 101, 101)}, 400}, {[]api.Leaf{more, of(0, 101, 101), of(0, 5000, 5000)}, -1},
		{[]api.Leaf{more, span(rs(0, 0), rs(1000, 1000))}, 1}, {[]api.Leaf{span(more.A, more.A)}, 1}, {[]api.Leaf{{U: 3, A: more.A}}, -1}, {[]api.Leaf{{U: 3, A: many.A}}, 400}, {[]api.Leaf{of(3, 0, 9999)}, 1}, {[]api.Leaf{{U: 3, A: more.A}, of(5, 0, 99)}, 1},
	} {
		got, errno := cover.Days(x.l)
		want := api.OK
		if x.runs < 0 {
			want = api.ErrWide
		}
		if errno != want || len(got) != max(0, x.runs) {
			t.Errorf("Days of %d families, %d runs: %d, %d", len(x.l), x.runs, len(got), errno)
		}
		if got, errno := cover.Sure(x.l); errno != api.OK || len(got) > 1 {
			t.Errorf("Sure of %d families: %d, %d", len(x.l), len(got), errno)
		}
	}
	if !cover.Possible([]api.Leaf{more}, 100) || cover.Possible([]api.Leaf{more}, 101) || !cover.Possible([]api.Leaf{more}, 900) {
		t.Error("days of 401 runs")
	}
}

// pairs tells the pairs of a leaf.
func pairs(f api.Leaf) []api.Pair {
	var l []api.Pair
	for _, a := range f.A {
		for i := a.Lo; i <= a.Hi; i++ {
			if !f.Span {
				first, _ := unit.First(f.U, i)
				last, _ := unit.Last(f.U, i)
				l = append(l, api.Pair{S: first, T: last})
				continue
			}
			for _, b := range f.B {
				for n := max(i, b.Lo); n <= b.Hi; n++ {
					l = append(l, api.Pair{S: i, T: n})
				}
			}
		}
	}
	return l
}

// P17.1 to P17.3: families by chance, pair by pair and day by day.
func TestByChance(t *testing.T) {
	r := rand.New(rand.NewSource(17))
	some := func(most, n int) set {
		var s set
		for range r.Intn(n) {
			lo := r.Intn(most)
			s = append(s, api.Run{Lo: lo, Hi: min(most-1, lo+r.Intn(4))})
		}
		return runs.Make(s)
	}
	for range 1500 {
		var l []api.Leaf
		var all []api.Pair
		for range r.Intn(4) {
			f := span(some(40, 4), some(40, 4))
			if r.Intn(2) == 0 {
				f = api.Leaf{U: r.Intn(2), A: some(3, 3)}
			}
			l, all = append(l, f), append(all, pairs(f)...)
		}
		var possible, certain []int
		for n := range 130 {
			has := func(p api.Pair) bool { return p.S <= n && n <= p.T }
			if slices.ContainsFunc(all, has) {
				possible = append(possible, n)
				if !slices.ContainsFunc(all, func(p api.Pair) bool { return !has(p) }) {
					certain = append(certain, n)
				}
			}
		}
		check(t, l, runs.Of(possible), len(all) > 0, runs.Of(certain), l)
		for n := range 130 {
			if cover.Possible(l, n) != slices.Contains(possible, n) || cover.Certain(l, n) != slices.Contains(certain, n) {
				t.Errorf("%v: day %d", l, n)
			}
		}
	}
}
