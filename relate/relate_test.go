package relate_test

import (
	"math"
	"math/rand"
	"slices"
	"testing"

	"lustrum/allen"
	"lustrum/api"
	"lustrum/denote"
	"lustrum/parse"
	"lustrum/relate"
	"lustrum/runs"
	"lustrum/unit"
)

type set = []api.Run

// rs tells the runs from each first to each second number.
func rs(n ...int) set {
	var s set
	for i := 0; i+1 < len(n); i += 2 {
		s = append(s, api.Run{Lo: n[i], Hi: n[i+1]})
	}
	return s
}

func of(kind int, n ...int) api.Leaf { return api.Leaf{U: kind, A: rs(n...)} }
func span(a, b set) api.Leaf         { return api.Leaf{Span: true, A: a, B: b} }

// mask is that of some relations.
func mask(l ...int) int {
	m := 0
	for _, r := range l {
		m |= 1 << r
	}
	return m
}

// denoted is what the expression of a text means.
func denoted(t *testing.T, s string) []api.Leaf {
	t.Helper()
	n, _, errno := parse.Parse(s)
	l, other := denote.Of(n)
	if errno != api.OK || other != api.OK {
		t.Fatalf("%q: %d, %d", s, errno, other)
	}
	return l
}

// pairs tells the pairs of leaves that may be.
func pairs(l []api.Leaf) []api.Pair {
	var all []api.Pair
	for _, f := range l {
		for _, a := range f.A {
			for i := a.Lo; i <= a.Hi; i++ {
				if !f.Span {
					first, _ := unit.First(f.U, i)
					last, _ := unit.Last(f.U, i)
					all = append(all, api.Pair{S: first, T: last})
					continue
				}
				for _, b := range f.B {
					for n := max(i, b.Lo); n <= b.Hi; n++ {
						all = append(all, api.Pair{S: i, T: n})
					}
				}
			}
		}
	}
	return all
}

// found tells the relations of all pairs, one by one.
func found(l, m []api.Leaf) int {
	all := 0
	for _, p := range pairs(l) {
		for _, q := range pairs(m) {
			r, _ := allen.Of(p, q)
			all |= 1 << r
		}
	}
	return all
}

// check holds all calls against the relations that are wanted.
func check(t *testing.T, l, m []api.Leaf, want int, told ...any) {
	t.Helper()
	if got, errno := relate.Relations(l, m); got != want || errno != api.OK {
		t.Errorf("Relations of %v: %v, %d, not %v", told, allen.List(got), errno, allen.List(want))
	}
	for r := range 13 {
		if relate.Can(l, m, r) != (want>>r&1 > 0) {
			t.Errorf("Can of %v, %d is not %v", told, r, want>>r&1 > 0)
		}
		without := want &^ (1 << r)
		if relate.Must(l, m, without) != (want != 0 && without == want) {
			t.Errorf("Must of %v, %v", told, allen.List(without))
		}
	}
	if relate.Must(l, m, want) != (want != 0) || relate.Must(l, m, -1) != (want != 0) || relate.Must(l, m, want|1<<40) != (want != 0) || relate.Must(l, m, 0) || relate.Must(l, m, math.MinInt) {
		t.Errorf("Must of %v, %v and more", told, allen.List(want))
	}
}

// P20.1: expressions.
func TestExpressions(t *testing.T) {
	for _, x := range []struct {
		a, b string
		want int
	}{
		{"1984-01", "1984-02", mask(1)}, {"1984-0X", "1984", mask(3, 4)}, {"198X", "198X", mask(0, 1, 6, 11, 12)}, {"[1984-12, 1985s1]", "1985-06", mask(0, 1)},
		{"1984", "1984", mask(6)}, {"1984", "1984?", mask(6)}, {"1984", "1985", mask(1)}, {"1984", "1986", mask(0)}, {"1986", "1984", mask(12)}, {"1985", "1984", mask(11)},
		{"1984", "198d", mask(4)}, {"1980", "198d", mask(3)}, {"1989", "198d", mask(5)}, {"198d", "1984", mask(8)}, {"198d", "1980", mask(9)}, {"198d", "1989", mask(7)},
		{"1984/1986", "1985/1987", mask(2)}, {"1985/1987", "1984/1986", mask(10)}, {"1984s4", "1985", mask(2)}, {"1985", "1984s4", mask(10)},
		{"198X-01", "198X-12", mask(0, 11, 12)}, {"1984-XX-XX", "1984", mask(3, 4, 5)}, {"1984", "1984-XX-XX", mask(7, 8, 9)}, {"1984-05-XX", "1984-05-XX", mask(0, 1, 6, 11, 12)},
		{"1984-05-05", "*/*", mask(0, 1, 3, 4, 5, 6, 11, 12)}, {"*/*", "*/*", 1<<13 - 1}, {"../..", "*/*", mask(6, 7, 8, 9)}, {"../..", "../..", mask(6)}, {"../*", "*/..", mask(0, 1, 2, 3, 6, 7)},
		{"1984/..", "1985", mask(8)}, {"1984/*", "1984", mask(3, 6, 9)}, {"*/1984", "1984", mask(5, 6, 7)}, {"1985/1984", "1984", 0}, {"1984", "2023-02-3X", 0}, {"2023-02-3X", "1985/1984", 0}, {"[2023-02-3X, 1984]", "[1985/1984, 1985]", mask(1)},
		{"1984~", "1984", mask(0, 1, 6, 11, 12)}, {"[1984, 1990]", "[1985, 1989]", mask(0, 1, 11, 12)}, {"XXXX-XX-XX", "XXXX-XX-XX", mask(0, 1, 6, 11, 12)}, {"XXXX-XX-XX", "*/*", mask(0, 1, 3, 4, 5, 6, 11, 12)},
	} {
		l, m := denoted(t, x.a), denoted(t, x.b)
		check(t, l, m, x.want, x.a, x.b)
		check(t, m, l, allen.Flip(x.want), x.b, x.a)
	}
}

// families tells lists of leaves by chance, of few pairs each; days are up to about 70.
func families(r *rand.Rand) []api.Leaf {
	some := func(most, n, long int) set {
		var s set
		for range 1 + r.Intn(n) {
			lo := r.Intn(most)
			s = append(s, api.Run{Lo: lo, Hi: min(most-1, lo+r.Intn(long))})
		}
		return runs.Make(s)
	}
	var l []api.Leaf
	for range 1 + r.Intn(3)/2 {
		switch r.Intn(6) {
		case 0:
			l = append(l, api.Leaf{U: api.Month, A: some(3, 2, 2)})
		case 1:
			l = append(l, api.Leaf{A: some(12, 3, 3)})
		case 2:
			l = append(l, api.Leaf{A: some(70, 3, 3)})
		case 3:
			l = append(l, span(some(8, 3, 3), some(8, 3, 3)))
		case 4:
			l = append(l, span(some(70, 2, 2), some(70, 2, 2)))
		case 5:
			l = append(l, span(some(5, 1, 2), some(7, 1, 2)))
		}
	}
	return l
}

// P20.1 to P20.3: families by chance, pair by pair.
func TestByChance(t *testing.T) {
	r, all := rand.New(rand.NewSource(20)), 0
	for i := range 12000 {
		l, m := families(r), families(r)
		want := found(l, m)
		all |= want
		if got, errno := relate.Relations(l, m); got != want || errno != api.OK {
			t.Fatalf("Relations of %v and %v: %v, %d, not %v", l, m, allen.List(got), errno, allen.List(want))
		}
		if got, _ := relate.Relations(m, l); got != allen.Flip(want) {
			t.Fatalf("Relations of %v and %v: %v, not %v", m, l, allen.List(got), allen.List(allen.Flip(want)))
		}
		if i%40 == 0 {
			check(t, l, m, want, l, m)
		}
	}
	if all != 1<<13-1 {
		t.Errorf("only %v were found", allen.List(all))
	}
}

// P20.1: units of all kinds about the same days, pair by pair.
func TestUnits(t *testing.T) {
	r := rand.New(rand.NewSource(201))
	unitsOf := func() api.Leaf {
		kind := 1 + r.Intn(5)
		i, _ := unit.Of(kind, 724641+r.Intn(3000))
		lo := max(0, i-r.Intn(3))
		return of(kind, lo, min(lo+r.Intn(4), unit.Count(kind)-1))
	}
	for range 3000 {
		l, m := []api.Leaf{unitsOf()}, []api.Leaf{unitsOf()}
		if r.Intn(3) == 0 {
			l = append(l, unitsOf(), unitsOf())
		}
		if r.Intn(3) == 0 {
			p, q := pairs([]api.Leaf{unitsOf()})[0], pairs([]api.Leaf{unitsOf()})[0]
			m = append(m, span(rs(p.S, p.S+1), rs(q.T-1, q.T)))
		}
		if got, errno := relate.Relations(l, m); got != found(l, m) || errno != api.OK {
			t.Fatalf("Relations of %v and %v: %v, not %v", l, m, allen.List(got), allen.List(found(l, m)))
		}
	}
}

// P20.1 and P20.2: one leaf with too many starts or ends, wherever it stands.
func TestTooWide(t *testing.T) {
	var odd set
	for i := range 401 {
		odd = append(odd, api.Run{Lo: 2*i + 1, Hi: 2*i + 1})
	}
	year := of(3, 1984, 1984)
	for _, f := range []api.Leaf{{A: odd}, of(3, 0, 400), of(1, 5, 405), span(odd, rs(900, 900)), span(rs(0, 0), odd)} {
		for _, x := range [][2][]api.Leaf{{{f}, {year}}, {{year}, {f}}, {{f}, {f}}, {{year, f}, {year}}, {{year}, {year, f, year}}, {{f}, nil}, {nil, {f}}, {{{}}, {f}}} {
			if got, errno := relate.Relations(x[0], x[1]); got != 0 || errno != api.ErrWide {
				t.Errorf("Relations of %d and %d leaves: %d, %d", len(x[0]), len(x[1]), got, errno)
			}
			for r := -1; r < 14; r++ {
				if relate.Can(x[0], x[1], r) {
					t.Errorf("Can of what is too wide: %d", r)
				}
			}
			if relate.Must(x[0], x[1], 1<<13-1) || relate.Must(x[0], x[1], 0) || relate.Must(x[0], x[1], -1) {
				t.Error("Must of what is too wide")
			}
		}
	}
	for _, f := range []api.Leaf{{A: odd[:400]}, of(3, 0, 399), of(5, 0, 99), span(odd[:400], odd[:400]), span(odd, rs(800, 800)), {A: rs(0, api.MaxDay)}, {U: 3, A: odd, B: odd}} {
		if _, errno := relate.Relations([]api.Leaf{f}, []api.Leaf{f}); errno != api.OK {
			t.Errorf("Relations of %d runs: %d", len(f.A), errno)
		}
	}
}

// P20.1 to P20.3: what has no pairs, what may not be, and what is no relation.
func TestNothing(t *testing.T) {
	year := []api.Leaf{of(3, 1984, 1984)}
	for _, f := range []api.Leaf{
		{}, {Span: true}, {U: 7, A: rs(1, 5)}, of(3, 10000, 10001), of(3, 5, 4), of(0, -5, 5), of(0, 1, 2, 3, 4), {U: 3, A: rs(1, 2), B: rs(1, 1)}, span(rs(5, 9), rs(1, 4)), span(rs(-1, 9), rs(1, 14)), span(rs(1, 9), nil), span(nil, rs(1, 2)), {Span: true, U: 1, A: rs(1, 2), B: rs(3, 4)}, of(0, math.MinInt, math.MaxInt),
	} {
		check(t, []api.Leaf{f}, year, 0, f, "and a year")
		check(t, year, []api.Leaf{f}, 0, "a year, and", f)
		check(t, []api.Leaf{f}, []api.Leaf{f}, 0, f, "twice")
		check(t, append([]api.Leaf{f}, year...), year, mask(6), f, "with a year, and a year")
	}
	check(t, nil, nil, 0, "nothing")
	check(t, nil, year, 0, "nothing, and a year")
	for _, r := range []int{-1, -2, 13, 14, 38, 63, 64, 70, math.MinInt, math.MaxInt} {
		if relate.Can(year, year, r) {
			t.Errorf("Can of no relation, %d", r)
		}
	}
}

// P20.1: as many runs as there may be, and all days.
func TestMany(t *testing.T) {
	var even, odd set
	for i := range 400 {
		even, odd = append(even, api.Run{Lo: 4 * i, Hi: 4 * i}), append(odd, api.Run{Lo: 4*i + 2, Hi: 4*i + 2})
	}
	for _, x := range []struct {
		l, m api.Leaf
		want int
	}{
		{api.Leaf{A: even}, api.Leaf{A: odd}, mask(0, 12)}, {api.Leaf{A: even}, api.Leaf{A: even}, mask(0, 6, 12)}, {span(even, even), span(odd, odd), mask(0, 2, 4, 8, 10, 12)}, {span(even, odd), span(even, odd), 1<<13 - 1 - mask(1, 11)},
		{span(even, odd), api.Leaf{A: even}, mask(0, 8, 9, 12)}, {api.Leaf{A: odd}, span(even, odd), mask(0, 4, 5, 12)}, {api.Leaf{A: rs(0, api.MaxDay)}, span(even, odd), mask(0, 1, 3, 4, 5, 11, 12)}, {of(3, 0, 399), of(1, 0, 399), mask(0, 1, 7, 8, 9, 11, 12)}, {of(4, 0, 399), of(3, 3600, 3999), mask(0, 1, 7, 8, 9, 11, 12)}, {of(4, 0, 399), of(3, 4000, 4399), mask(0, 1)},
	} {
		check(t, []api.Leaf{x.l}, []api.Leaf{x.m}, x.want, len(x.l.A), len(x.m.A))
		check(t, []api.Leaf{x.m}, []api.Leaf{x.l}, allen.Flip(x.want), len(x.m.A), len(x.l.A))
	}
}

// R3: nothing that is handed in is changed.
func TestNothingIsChanged(t *testing.T) {
	l := denoted(t, "[1984-05-0X, 1984-04-0X, 198X, 1984/*, 1982]")
	m := denoted(t, "[1984-05-0X, 1984-04-0X, 198X, 1984/*, 1982]")
	relate.Relations(l, l)
	if !slices.EqualFunc(l, m, func(f, g api.Leaf) bool { return slices.Equal(f.A, g.A) && slices.Equal(f.B, g.B) && f.U == g.U }) {
		t.Error(l)
	}
}
