package order_test

import (
	"cmp"
	"math"
	"math/rand"
	"slices"
	"testing"

	"lustrum/api"
	"lustrum/civil"
	"lustrum/denote"
	"lustrum/order"
	"lustrum/parse"
	"lustrum/runs"
)

type set = []api.Run

// rs tells the runs from each first to each second number.
func rs(n ...int) set {
	var s set
	for i := 0; i+1 < len(n); i += 2 {
		s = append(s, api.Run{Lo: n[i], Hi: n[i+1]})
	}
	return s
}

func of(kind int, n ...int) api.Leaf { return api.Leaf{U: kind, A: rs(n...)} }
func span(a, b set) api.Leaf         { return api.Leaf{Span: true, A: a, B: b} }

// empty are leaves without pairs, and some that may not be.
var empty = []api.Leaf{{}, {Span: true}, {U: 7, A: rs(1, 5)}, of(3, 10000, 10001), of(0, 1, 2, 3, 4), of(0, -5, 5), span(rs(5, 9), rs(1, 4)), span(rs(1, 9), nil), {U: 3, A: rs(1, 2), B: rs(1, 1)}}

// denoted is what the expression of a text means.
func denoted(t *testing.T, s string) []api.Leaf {
	t.Helper()
	n, _, errno := parse.Parse(s)
	l, other := denote.Of(n)
	if errno != api.OK || other != api.OK {
		t.Fatalf("%q: %d, %d", s, errno, other)
	}
	return l
}

// day is a date's number.
func day(y, m, d int) int {
	n, _ := civil.Number(y, m, d)
	return n
}

// P21.1: expressions.
func TestCertainlyAndPossibly(t *testing.T) {
	for _, x := range []struct {
		a, b                string
		certainly, possibly bool
	}{
		{"1984", "1985-05", true, true}, {"198X", "1984", false, true}, {"1984", "1984", false, false}, {"1984", "1985", true, true}, {"1985", "1984", false, false}, {"1984-12-31", "1985-01-01", true, true}, {"1984-12-31", "1984-12-31", false, false},
		{"198X", "198X", false, true}, {"[1984, 1986]", "1985", false, true}, {"1985", "[1984, 1986]", false, true}, {"[1984, 1986]", "1987", true, true}, {"[1984, 1986]", "[1985, 1987]", false, true}, {"[1986, 1987]", "[1984, 1985]", false, false},
		{"1984/1986", "1987", true, true}, {"1984/1986", "1986", false, false}, {"1984/*", "1985", false, true}, {"1984/*", "1984", false, false}, {"1984/..", "9999-12-31", false, false}, {"../1984", "1985/..", true, true}, {"../..", "../..", false, false}, {"*/*", "*/*", false, true}, {"XXXX-XX-XX", "XXXX-XX-XX", false, true},
		{"1984", "[1985, 1985/1984]", true, true}, {"[2023-02-3X, 1984]", "1985", true, true},
	} {
		l, m := denoted(t, x.a), denoted(t, x.b)
		if got, errno := order.Certainly(l, m); got != x.certainly || errno != api.OK {
			t.Errorf("Certainly %q, %q: %v, %d", x.a, x.b, got, errno)
		}
		if got, errno := order.Possibly(l, m); got != x.possibly || errno != api.OK {
			t.Errorf("Possibly %q, %q: %v, %d", x.a, x.b, got, errno)
		}
	}
}

// P21.1 and P21.2: what has no pairs.
func TestEmpty(t *testing.T) {
	year := []api.Leaf{of(3, 1984, 1984)}
	lists := [][]api.Leaf{nil, {}, empty}
	for _, f := range empty {
		lists = append(lists, []api.Leaf{f})
	}
	for _, l := range lists {
		for _, x := range [][2][]api.Leaf{{l, year}, {year, l}, {l, l}} {
			if got, errno := order.Certainly(x[0], x[1]); got || errno != api.ErrEmpty {
				t.Errorf("Certainly %v: %v, %d", x, got, errno)
			}
			if got, errno := order.Possibly(x[0], x[1]); got || errno != api.ErrEmpty {
				t.Errorf("Possibly %v: %v, %d", x, got, errno)
			}
		}
		if key, errno := order.Of(l); key != (order.Key{}) || errno != api.ErrEmpty {
			t.Errorf("Of %v: %v, %d", l, key, errno)
		}
	}
}

// P21.2: keys.
func TestOf(t *testing.T) {
	for s, want := range map[string]order.Key{
		"1984": {Lo: day(1984, 1, 1), Hi: day(1984, 12, 31)}, "[1986-05, 1984, 1985]": {Lo: day(1984, 1, 1), Hi: day(1986, 5, 31)}, "198X/1985": {Lo: day(1980, 1, 1), Hi: day(1985, 12, 31)}, "../1984": {Lo: 0, Hi: day(1984, 12, 31)}, "1984/*": {Lo: day(1984, 1, 1), Hi: api.MaxDay}, "0000-01-01": {Lo: 0, Hi: 0},
	} {
		if key, errno := order.Of(denoted(t, s)); key != want || errno != api.OK {
			t.Errorf("Of %q: %v, %d, not %v", s, key, errno, want)
		}
	}
}

// P21.2: by Lo, and of one Lo by Hi.
func TestCompare(t *testing.T) {
	days := []int{math.MinInt, -5, -1, 0, 1, 7, math.MaxInt}
	for _, a := range days {
		for _, b := range days {
			for _, c := range days {
				for _, d := range days {
					want := 0
					switch {
					case a < c || a == c && b < d:
						want = -1
					case a > c || b > d:
						want = 1
					}
					if got := order.Compare(order.Key{Lo: a, Hi: b}, order.Key{Lo: c, Hi: d}); got != want {
						t.Errorf("Compare %d %d, %d %d: %d", a, b, c, d, got)
					}
				}
			}
		}
	}
}

// P21.3: by hand.
func TestSortByHand(t *testing.T) {
	for _, x := range []struct {
		l    []string
		want []int
	}{
		{nil, nil}, {[]string{"1984"}, []int{0}}, {[]string{"1985", "1984"}, []int{1, 0}}, {[]string{"1984", "1984?", "[1984]"}, []int{0, 1, 2}},
		{[]string{"2023-02-3X", "1985", "1985/1984", "1984", "1984-01", "2023-02-3X", "198d"}, []int{6, 4, 3, 1, 0, 2, 5}},
		{[]string{"1985/1984", "2023-02-3X"}, []int{0, 1}}, {[]string{"*/*", "0000", "../..", "0000-01-01"}, []int{3, 1, 0, 2}}, {[]string{"[1980, 1989]", "198d", "198X", "1980/1989"}, []int{0, 1, 2, 3}},
	} {
		var l [][]api.Leaf
		for _, s := range x.l {
			l = append(l, denoted(t, s))
		}
		if got := order.Sort(l); !slices.Equal(got, x.want) {
			t.Errorf("Sort %q: %v, not %v", x.l, got, x.want)
		}
	}
	if got := order.Sort([][]api.Leaf{nil, {}, empty, {of(3, 5, 5)}}); !slices.Equal(got, []int{3, 0, 1, 2}) {
		t.Error(got)
	}
}

// pairs tells the pairs of small days.
func pairs(l []api.Leaf) []api.Pair {
	var all []api.Pair
	for _, f := range l {
		for s := range 40 {
			for e := s; e < 40; e++ {
				if p := (api.Pair{S: s, T: e}); denote.Has([]api.Leaf{f}, p) {
					all = append(all, p)
				}
			}
		}
	}
	return all
}

// byChance tells lists of leaves of small days, now and then without pairs.
func byChance(r *rand.Rand) []api.Leaf {
	some := func() set {
		lo := r.Intn(30)
		return runs.Make(rs(lo, lo+r.Intn(3), lo+r.Intn(8), lo+r.Intn(8)))
	}
	var l []api.Leaf
	for range r.Intn(3) {
		if r.Intn(2) == 0 {
			l = append(l, span(some(), some()))
		} else {
			l = append(l, api.Leaf{A: some()})
		}
	}
	return l
}

// P21.1 and P21.4: families by chance, pair by pair; what comes certainly ahead comes possibly ahead, and has the lesser key.
func TestAheadByChance(t *testing.T) {
	r, count := rand.New(rand.NewSource(21)), 0
	for range 3000 {
		l, m := byChance(r), byChance(r)
		a, b := pairs(l), pairs(m)
		every, some := true, false
		for _, p := range a {
			for _, q := range b {
				every, some = every && p.T < q.S, some || p.T < q.S
			}
		}
		want := api.OK
		if len(a) == 0 || len(b) == 0 {
			every, want = false, api.ErrEmpty
		}
		certainly, errno := order.Certainly(l, m)
		possibly, other := order.Possibly(l, m)
		if certainly != every || possibly != some || errno != want || other != want {
			t.Fatalf("%v and %v: %v, %d, %v, %d, not %v, %v", l, m, certainly, errno, possibly, other, every, some)
		}
		if certainly {
			count++
			p, _ := order.Of(l)
			q, _ := order.Of(m)
			if order.Compare(p, q) != -1 || !possibly {
				t.Fatalf("%v and %v: keys %v, %v", l, m, p, q)
			}
		}
	}
	if count < 100 {
		t.Errorf("%d come certainly ahead", count)
	}
}

// P21.3: lists by chance.
func TestSortByChance(t *testing.T) {
	r := rand.New(rand.NewSource(213))
	for range 200 {
		var l [][]api.Leaf
		var want, none []int
		keys := map[int][2]int{}
		for i := range r.Intn(60) {
			l = append(l, byChance(r))
			all := pairs(l[i])
			if len(all) == 0 {
				none = append(none, i)
				continue
			}
			want = append(want, i)
			lo := slices.MinFunc(all, func(p, q api.Pair) int { return cmp.Compare(p.S, q.S) })
			hi := slices.MaxFunc(all, func(p, q api.Pair) int { return cmp.Compare(p.T, q.T) })
			keys[i] = [2]int{lo.S, hi.T}
		}
		before := slices.Clone(l)
		slices.SortStableFunc(want, func(i, j int) int {
			return cmp.Or(cmp.Compare(keys[i][0], keys[j][0]), cmp.Compare(keys[i][1], keys[j][1]))
		})
		want = append(want, none...)
		if got := order.Sort(l); !slices.Equal(got, want) {
			t.Fatalf("Sort %v: %v, not %v", l, got, want)
		}
		for i := range l {
			if len(l[i]) != len(before[i]) {
				t.Fatal("a list was changed")
			}
		}
	}
}
