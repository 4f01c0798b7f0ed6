package runs_test

import (
	"math"
	"math/rand"
	"slices"
	"testing"

	"lustrum/api"
	"lustrum/runs"
)

type set = []api.Run

// rs tells the runs from each first to each second number.
func rs(n ...int) set {
	var s set
	for i := 0; i+1 < len(n); i += 2 {
		s = append(s, api.Run{Lo: n[i], Hi: n[i+1]})
	}
	return s
}

// oracle tells the set of the numbers of some runs that lie within -30 to 30, number by number.
func oracle(l set) set {
	var s set
	for n := -30; n <= 30; n++ {
		for _, r := range l {
			if r.Lo <= n && n <= r.Hi {
				if last := len(s) - 1; last >= 0 && s[last].Hi == n-1 {
					s[last].Hi = n
				} else {
					s = append(s, api.Run{Lo: n, Hi: n})
				}
				break
			}
		}
	}
	return s
}

// some tells lists of runs, sets and others, with numbers within -25 to 25.
func some(n int) []set {
	r := rand.New(rand.NewSource(4))
	l := []set{nil, {}}
	for range n {
		var s set
		for range r.Intn(7) {
			lo := r.Intn(50) - 25
			s = append(s, api.Run{Lo: lo, Hi: min(25, lo+r.Intn(9)-2)})
		}
		l = append(l, s)
		if r.Intn(3) == 0 {
			l = append(l, oracle(s))
		}
	}
	return l
}

// P4.1
func TestSaneByHand(t *testing.T) {
	for _, s := range []set{nil, {}, rs(0, 0), rs(-5, 5), rs(1, 3, 5, 7), rs(1, 1, 3, 3, 5, 5), rs(-api.Lim, api.Lim), rs(-api.Lim, -api.Lim, api.Lim, api.Lim)} {
		if !runs.Sane(s) {
			t.Errorf("%v is a set", s)
		}
	}
	for _, s := range []set{
		rs(1, 0), rs(0, -1), rs(1, 3, 4, 7), rs(1, 3, 3, 7), rs(1, 3, 2, 2), rs(5, 7, 1, 3), rs(1, 3, 1, 3), rs(1, 3, 9, 8),
		rs(-api.Lim-1, 0), rs(0, api.Lim+1), rs(-api.Lim-1, -api.Lim-1), rs(api.Lim+1, api.Lim+1), rs(1, 2, 4, api.Lim+1),
		rs(math.MinInt, math.MaxInt), rs(math.MaxInt, math.MinInt), rs(math.MinInt, math.MinInt), rs(0, math.MaxInt, math.MinInt, 3), rs(0, 1, 2, 3, 9, 9), rs(0, 1, 9, 9, 10, 10),
	} {
		if runs.Sane(s) {
			t.Errorf("%v is no set", s)
		}
	}
}

// P4.1 and P4.3: what is made is the one set of the numbers, and what is handed in stays as it is.
func TestMake(t *testing.T) {
	for _, l := range some(4000) {
		want, before := oracle(l), slices.Clone(l)
		got := runs.Make(l)
		if !slices.Equal(got, want) {
			t.Errorf("Make(%v): %v, not %v", l, got, want)
		}
		if !slices.Equal(l, before) {
			t.Errorf("Make(%v) made of it %v", before, l)
		}
		if !runs.Sane(got) || !slices.Equal(runs.Make(got), want) {
			t.Errorf("Make(%v): %v is no set, or does not stay", l, got)
		}
		if runs.Sane(l) != slices.Equal(l, want) {
			t.Errorf("Sane(%v): %v", l, runs.Sane(l))
		}
	}
}

// P4.1: the document's example, and the bounds.
func TestMakeByHand(t *testing.T) {
	for _, x := range []struct{ l, want set }{
		{rs(5, 7, 1, 2, 3, 3), rs(1, 3, 5, 7)},
		{rs(9, 8, math.MaxInt, math.MinInt), nil},
		{rs(1, 9, 2, 3, 4, 5), rs(1, 9)},
		{rs(4, 5, 1, 9, 8, 12), rs(1, 12)},
		{rs(math.MinInt, math.MaxInt), rs(-api.Lim, api.Lim)},
		{rs(math.MinInt, math.MinInt, math.MaxInt, math.MaxInt), nil},
		{rs(-api.Lim-9, -api.Lim-1, api.Lim+1, api.Lim+9), nil},
		{rs(-api.Lim-9, -api.Lim, api.Lim, api.Lim+9), rs(-api.Lim, -api.Lim, api.Lim, api.Lim)},
		{rs(0, math.MaxInt, math.MinInt, -2), rs(-api.Lim, -2, 0, api.Lim)},
		{rs(7, 7, 7, 7, 7, 7), rs(7, 7)},
	} {
		if got := runs.Make(x.l); !slices.Equal(got, x.want) {
			t.Errorf("Make(%v): %v, not %v", x.l, got, x.want)
		}
	}
}

// P4.1: the set of some numbers.
func TestOf(t *testing.T) {
	r := rand.New(rand.NewSource(41))
	for range 2000 {
		var l []int
		var each set
		for range r.Intn(12) {
			n := r.Intn(20) - 10
			l, each = append(l, n), append(each, api.Run{Lo: n, Hi: n})
		}
		before := slices.Clone(l)
		if got, want := runs.Of(l), oracle(each); !slices.Equal(got, want) {
			t.Errorf("Of(%v): %v, not %v", l, got, want)
		}
		if !slices.Equal(l, before) {
			t.Errorf("Of(%v) made of it %v", before, l)
		}
	}
	got := runs.Of([]int{math.MaxInt, api.Lim + 1, api.Lim, 3, -api.Lim, -api.Lim - 1, math.MinInt})
	if !slices.Equal(got, rs(-api.Lim, -api.Lim, 3, 3, api.Lim, api.Lim)) {
		t.Error("numbers out of bounds:", got)
	}
	if len(runs.Of(nil)) > 0 {
		t.Error("numbers of none")
	}
}

// P4.2: what is asked of a set, and of what counts as one.
func TestAsked(t *testing.T) {
	for _, l := range some(1500) {
		s, before := oracle(l), slices.Clone(l)
		count := 0
		for n := -30; n <= 30; n++ {
			in := slices.ContainsFunc(s, func(r api.Run) bool { return r.Lo <= n && n <= r.Hi })
			if in {
				count++
			}
			if runs.Has(l, n) != in {
				t.Errorf("Has(%v, %d) is not %v", l, n, in)
			}
		}
		if got := runs.Count(l); got != count {
			t.Errorf("Count(%v): %d, not %d", l, got, count)
		}
		checkNeighbours(t, l)
		if !slices.Equal(l, before) {
			t.Errorf("%v was made %v", before, l)
		}
	}
}

// checkNeighbours goes from each number up and down to the next one that Has tells.
func checkNeighbours(t *testing.T, l set) {
	t.Helper()
	next, some := 0, false
	for n := 30; n >= -30; n-- {
		if runs.Has(l, n) {
			next, some = n, true
		}
		if got, ok := runs.Next(l, n); got != next || ok != some {
			t.Errorf("Next(%v, %d): %d, %v, not %d, %v", l, n, got, ok, next, some)
		}
	}
	prev, some := 0, false
	for n := -30; n <= 30; n++ {
		if runs.Has(l, n) {
			prev, some = n, true
		}
		if got, ok := runs.Prev(l, n); got != prev || ok != some {
			t.Errorf("Prev(%v, %d): %d, %v, not %d, %v", l, n, got, ok, prev, some)
		}
	}
}

// P4.2: numbers far out, and runs out of bounds.
func TestAskedAtTheBounds(t *testing.T) {
	all := rs(math.MinInt, math.MaxInt)
	if n := runs.Count(all); n != 2*api.Lim+1 {
		t.Error("Count of all:", n)
	}
	for _, x := range []struct {
		n, next, prev  int
		some, ok, back bool
	}{
		{math.MinInt, -api.Lim, 0, false, true, false}, {-api.Lim - 1, -api.Lim, 0, false, true, false},
		{-api.Lim, -api.Lim, -api.Lim, true, true, true}, {0, 0, 0, true, true, true}, {api.Lim, api.Lim, api.Lim, true, true, true},
		{api.Lim + 1, 0, api.Lim, false, false, true}, {math.MaxInt, 0, api.Lim, false, false, true},
	} {
		if runs.Has(all, x.n) != x.some {
			t.Errorf("Has of all, %d", x.n)
		}
		if n, ok := runs.Next(all, x.n); n != x.next || ok != x.ok {
			t.Errorf("Next of all, %d: %d, %v", x.n, n, ok)
		}
		if n, ok := runs.Prev(all, x.n); n != x.prev || ok != x.back {
			t.Errorf("Prev of all, %d: %d, %v", x.n, n, ok)
		}
	}
	for _, s := range []set{nil, {}, rs(1, 0), rs(math.MaxInt, math.MinInt), rs(math.MaxInt, math.MaxInt)} {
		for _, n := range []int{math.MinInt, -1, 0, 1, math.MaxInt} {
			next, ok := runs.Next(s, n)
			prev, back := runs.Prev(s, n)
			if runs.Has(s, n) || next != 0 || ok || prev != 0 || back || runs.Count(s) != 0 {
				t.Errorf("%v has nothing at %d", s, n)
			}
		}
	}
}

// P4.3: of the same numbers, told in other runs and another order, the set is the same.
func TestOneSet(t *testing.T) {
	r := rand.New(rand.NewSource(43))
	for _, l := range some(1000) {
		var split set
		for _, x := range l {
			for x.Lo <= x.Hi {
				hi := min(x.Hi, x.Lo+r.Intn(3))
				split = append(split, api.Run{Lo: x.Lo, Hi: hi})
				x.Lo = hi + 1
			}
		}
		r.Shuffle(len(split), func(i, j int) { split[i], split[j] = split[j], split[i] })
		if a, b := runs.Make(l), runs.Make(split); !slices.Equal(a, b) {
			t.Errorf("%v: %v, and of %v: %v", l, a, split, b)
		}
	}
}
