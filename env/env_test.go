package env_test

import (
	"math"
	"math/rand"
	"slices"
	"testing"

	"lustrum/api"
	"lustrum/civil"
	"lustrum/denote"
	"lustrum/env"
	"lustrum/parse"
	"lustrum/runs"
	"lustrum/unit"
)

type set = []api.Run

// rs tells the runs from each first to each second number.
func rs(n ...int) set {
	var s set
	for i := 0; i+1 < len(n); i += 2 {
		s = append(s, api.Run{Lo: n[i], Hi: n[i+1]})
	}
	return s
}

func of(kind int, n ...int) api.Leaf { return api.Leaf{U: kind, A: rs(n...)} }
func span(a, b set) api.Leaf         { return api.Leaf{Span: true, A: a, B: b} }

// denoted is what the expression of a text means.
func denoted(t *testing.T, s string) []api.Leaf {
	t.Helper()
	n, _, errno := parse.Parse(s)
	l, other := denote.Of(n)
	if errno != api.OK || other != api.OK {
		t.Fatalf("%q: %d, %d", s, errno, other)
	}
	return l
}

// day is a date's number.
func day(y, m, d int) int {
	n, _ := civil.Number(y, m, d)
	return n
}

// check holds the four days against those that are wanted; ErrEmpty of none.
func check(t *testing.T, l []api.Leaf, want []int, told ...any) {
	t.Helper()
	var got []int
	for i, call := range []func([]api.Leaf) (int, api.Errno){env.Earliest, env.Latest, env.FirstEnd, env.LastStart} {
		n, errno := call(l)
		if errno == api.OK {
			got = append(got, n)
		} else if errno != api.ErrEmpty || n != 0 {
			t.Errorf("call %d of %v: %d, %d", i, told, n, errno)
		}
	}
	if !slices.Equal(got, want) {
		t.Errorf("%v: %v, not %v", told, got, want)
	}
}

// P16.1: expressions.
func TestExpressions(t *testing.T) {
	for s, want := range map[string][]int{
		"[1984, 1985-06]":                       {day(1984, 1, 1), day(1985, 6, 30), day(1984, 12, 31), day(1985, 6, 1)},
		"1984":                                  {day(1984, 1, 1), day(1984, 12, 31), day(1984, 12, 31), day(1984, 1, 1)},
		"198X":                                  {day(1980, 1, 1), day(1989, 12, 31), day(1980, 12, 31), day(1989, 1, 1)},
		"1984/1986":                             {day(1984, 1, 1), day(1986, 12, 31), day(1986, 12, 31), day(1984, 1, 1)},
		"198X/198X":                             {day(1980, 1, 1), day(1989, 12, 31), day(1980, 12, 31), day(1989, 1, 1)},
		"198X/1984":                             {day(1980, 1, 1), day(1984, 12, 31), day(1984, 12, 31), day(1984, 1, 1)},
		"1984/198X":                             {day(1984, 1, 1), day(1989, 12, 31), day(1984, 12, 31), day(1984, 1, 1)},
		"1985/1984":                             nil,
		"2023-02-3X":                            nil,
		"[1985/1984, 2023-02-3X]":               nil,
		"[1985/1984, 1999-12-31, 2023-02-3X]":   {day(1999, 12, 31), day(1999, 12, 31), day(1999, 12, 31), day(1999, 12, 31)},
		"*/*":                                   {0, api.MaxDay, 0, api.MaxDay},
		"../..":                                 {0, api.MaxDay, api.MaxDay, 0},
		"../*":                                  {0, api.MaxDay, 0, 0},
		"*/..":                                  {0, api.MaxDay, api.MaxDay, api.MaxDay},
		"1984/*":                                {day(1984, 1, 1), api.MaxDay, day(1984, 1, 1), day(1984, 1, 1)},
		"*/1984":                                {0, day(1984, 12, 31), day(1984, 12, 31), day(1984, 12, 31)},
		"XXXX-XX-XX":                            {0, api.MaxDay, 0, api.MaxDay},
		"[1984s4, 1985s1]":                      {day(1984, 12, 1), day(1985, 5, 31), day(1985, 2, 28), day(1985, 3, 1)},
		"9999s4":                                {day(9999, 12, 1), api.MaxDay, api.MaxDay, day(9999, 12, 1)},
		"[19c, 1901-05-06, 1998-05-06/1998-05]": {day(1900, 1, 1), day(1999, 12, 31), day(1901, 5, 6), day(1998, 5, 6)},
	} {
		check(t, denoted(t, s), want, s)
	}
}

// P16.1: families without pairs, and those that may not be.
func TestEmpty(t *testing.T) {
	year := of(3, 1984, 1984)
	days := []int{day(1984, 1, 1), day(1984, 12, 31), day(1984, 12, 31), day(1984, 1, 1)}
	wrong := []api.Leaf{
		{}, {Span: true}, {U: 7, A: rs(1, 5)}, {U: -1}, of(3, 10000, 10001), of(3, 5, 4), of(0, -5, 5), of(0, 1, 2, 3, 4), {U: 3, A: rs(1, 2), B: rs(1, 1)}, span(rs(5, 9), rs(1, 4)), span(rs(-1, 9), rs(1, 4)), span(rs(1, 9), nil), span(nil, rs(1, 2)),
		{Span: true, U: 1, A: rs(1, 2), B: rs(3, 4)}, span(rs(1, 2), rs(3, api.MaxDay+1)), span(rs(3, 4, 1, 1), rs(3, 9)), of(0, math.MinInt, math.MaxInt),
	}
	check(t, nil, nil, "nothing")
	check(t, wrong, nil, "all that have no pair")
	for _, f := range wrong {
		check(t, []api.Leaf{f}, nil, f)
		check(t, []api.Leaf{f, year}, days, f, "and a year")
		check(t, []api.Leaf{year, f}, days, "a year, and", f)
	}
}

// P16.1: more units, and more runs, than leaf.Starts tells.
func TestWide(t *testing.T) {
	var odd set
	for i := range 2000 {
		odd = append(odd, api.Run{Lo: 2*i + 1, Hi: 2*i + 1})
	}
	check(t, []api.Leaf{of(3, 0, 9999)}, []int{0, api.MaxDay, 365, day(9999, 1, 1)}, "all years")
	check(t, []api.Leaf{of(2, 0, 39999)}, []int{60, api.MaxDay, day(0, 5, 31), day(9999, 12, 1)}, "all seasons")
	check(t, []api.Leaf{{A: odd}}, []int{1, 3999, 1, 3999}, "2000 days")
	check(t, []api.Leaf{span(odd, odd)}, []int{1, 3999, 1, 3999}, "2000 starts, 2000 ends")
	check(t, []api.Leaf{span(odd, rs(100, 200))}, []int{1, 200, 100, 199}, "2000 starts")
	check(t, []api.Leaf{span(rs(100, 200), odd)}, []int{100, 3999, 101, 200}, "2000 ends")
}

// pairs tells the pairs of a leaf.
func pairs(f api.Leaf) []api.Pair {
	var l []api.Pair
	for _, a := range f.A {
		for i := a.Lo; i <= a.Hi; i++ {
			if !f.Span {
				first, _ := unit.First(f.U, i)
				last, _ := unit.Last(f.U, i)
				l = append(l, api.Pair{S: first, T: last})
				continue
			}
			for _, b := range f.B {
				for n := max(i, b.Lo); n <= b.Hi; n++ {
					l = append(l, api.Pair{S: i, T: n})
				}
			}
		}
	}
	return l
}

// P16.1 and P16.2: families by chance, pair by pair.
func TestByChance(t *testing.T) {
	r := rand.New(rand.NewSource(16))
	some := func(most, n int) set {
		var s set
		for range r.Intn(n) {
			lo := r.Intn(most)
			s = append(s, api.Run{Lo: lo, Hi: min(most-1, lo+r.Intn(4))})
		}
		return runs.Make(s)
	}
	for range 3000 {
		var l []api.Leaf
		var s, e []int
		for range r.Intn(4) {
			f := span(some(30, 5), some(30, 5))
			if r.Intn(2) == 0 {
				f = api.Leaf{U: r.Intn(4), A: some(30, 3)}
			}
			l = append(l, f)
			for _, p := range pairs(f) {
				s, e = append(s, p.S), append(e, p.T)
			}
		}
		var want []int
		if len(s) > 0 {
			want = []int{slices.Min(s), slices.Max(e), slices.Min(e), slices.Max(s)}
		}
		check(t, l, want, l)
	}
}
