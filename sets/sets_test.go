package sets_test

import (
	"math"
	"math/rand"
	"slices"
	"testing"

	"lustrum/api"
	"lustrum/runs"
	"lustrum/sets"
)

type set = []api.Run

// rs tells the runs from each first to each second number.
func rs(n ...int) set {
	var s set
	for i := 0; i+1 < len(n); i += 2 {
		s = append(s, api.Run{Lo: n[i], Hi: n[i+1]})
	}
	return s
}

// inside: has one of some runs the number?
func inside(l set, n int) bool {
	return slices.ContainsFunc(l, func(r api.Run) bool { return r.Lo <= n && n <= r.Hi })
}

// oracle tells the set of the numbers from -90 to 90 of which that is so.
func oracle(in func(n int) bool) set {
	var s set
	for n := -90; n <= 90; n++ {
		if !in(n) {
			continue
		}
		if last := len(s) - 1; last >= 0 && s[last].Hi == n-1 {
			s[last].Hi = n
		} else {
			s = append(s, api.Run{Lo: n, Hi: n})
		}
	}
	return s
}

// some tells a list of runs within -30 to 30, now and then a set.
func some(r *rand.Rand) set {
	var s set
	for range r.Intn(8) {
		lo := r.Intn(60) - 30
		s = append(s, api.Run{Lo: lo, Hi: min(30, lo+r.Intn(10)-2)})
	}
	if r.Intn(2) == 0 {
		return oracle(func(n int) bool { return inside(s, n) })
	}
	return s
}

// check tells where an answer is not the set that is wanted.
func check(t *testing.T, got, want set, told ...any) {
	t.Helper()
	if !slices.Equal(got, want) {
		t.Errorf("%v: %v, not %v", told, got, want)
	}
}

// P5.1 and P5.4: what is in one of both, in both, in one without the other; what is handed in stays.
func TestTwoSets(t *testing.T) {
	r := rand.New(rand.NewSource(5))
	for range 6000 {
		a, b := some(r), some(r)
		ca, cb := slices.Clone(a), slices.Clone(b)
		union, meet, minus := sets.Union(a, b), sets.Meet(a, b), sets.Minus(a, b)
		check(t, union, oracle(func(n int) bool { return inside(a, n) || inside(b, n) }), "Union", a, b)
		check(t, meet, oracle(func(n int) bool { return inside(a, n) && inside(b, n) }), "Meet", a, b)
		check(t, minus, oracle(func(n int) bool { return inside(a, n) && !inside(b, n) }), "Minus", a, b)
		check(t, sets.Union(meet, sets.Union(minus, sets.Minus(b, a))), union, "the parts of the union of", a, b)
		if !slices.Equal(a, ca) || !slices.Equal(b, cb) {
			t.Errorf("%v and %v were changed", ca, cb)
		}
	}
}

// P5.1, by hand.
func TestTwoSetsByHand(t *testing.T) {
	check(t, sets.Minus(rs(1, 9), rs(4, 5)), rs(1, 3, 6, 9), "the example")
	check(t, sets.Minus(rs(1, 9, 20, 30), rs(5, 25)), rs(1, 4, 26, 30), "one run out of two")
	check(t, sets.Minus(rs(1, 9), nil), rs(1, 9), "nothing less")
	check(t, sets.Minus(nil, rs(1, 9)), nil, "less than nothing")
	check(t, sets.Minus(rs(math.MinInt, math.MaxInt), rs(0, math.MaxInt)), rs(-api.Lim, -1), "half of all")
	check(t, sets.Minus(rs(-api.Lim, api.Lim), rs(-api.Lim, -api.Lim, api.Lim, api.Lim)), rs(-api.Lim+1, api.Lim-1), "all but the ends")
	check(t, sets.Meet(rs(1, 9, 20, 30), rs(5, 25)), rs(5, 9, 20, 25), "one run in two")
	check(t, sets.Meet(rs(0, 100), rs(1, 2, 4, 5, 99, 120)), rs(1, 2, 4, 5, 99, 100), "many runs in one")
	check(t, sets.Meet(rs(math.MinInt, math.MaxInt), rs(math.MinInt, math.MaxInt)), rs(-api.Lim, api.Lim), "all")
	check(t, sets.Meet(rs(3, 1), rs(1, 3)), nil, "an empty run")
	check(t, sets.Meet(rs(api.Lim+1, math.MaxInt), rs(math.MinInt, math.MaxInt)), nil, "what is out of bounds")
	check(t, sets.Union(rs(1, 2), rs(3, 4)), rs(1, 4), "neighbours")
	check(t, sets.Union(rs(1, 2), rs(4, 4)), rs(1, 2, 4, 4), "no neighbours")
	check(t, sets.Union(rs(math.MinInt, 0), rs(2, math.MaxInt)), rs(-api.Lim, 0, 2, api.Lim), "out of bounds")
	check(t, sets.Union(nil, nil), nil, "nothing")
}

// P5.2: shifted, grown and clipped.
func TestOneSet(t *testing.T) {
	r := rand.New(rand.NewSource(52))
	for range 4000 {
		s, k := some(r), r.Intn(60)-30
		lo, hi := r.Intn(80)-40, r.Intn(80)-40
		before := slices.Clone(s)
		check(t, sets.Shift(s, k), oracle(func(n int) bool { return inside(s, n-k) }), "Shift", s, k)
		check(t, sets.Clip(s, lo, hi), oracle(func(n int) bool { return lo <= n && n <= hi && inside(s, n) }), "Clip", s, lo, hi)
		k = r.Intn(8) - 2
		check(t, sets.Grow(s, k), oracle(func(n int) bool {
			for d := -max(k, 0); d <= max(k, 0); d++ {
				if inside(s, n+d) {
					return true
				}
			}
			return false
		}), "Grow", s, k)
		if !slices.Equal(s, before) {
			t.Errorf("%v was changed", before)
		}
	}
}

// P5.2: far shifts, at the bounds and beyond.
func TestShiftFar(t *testing.T) {
	for _, x := range []struct {
		s    set
		k    int
		want set
	}{
		{rs(0, 0), api.Lim, rs(api.Lim, api.Lim)}, {rs(0, 0), api.Lim + 1, nil},
		{rs(0, 0), -api.Lim, rs(-api.Lim, -api.Lim)}, {rs(0, 0), -api.Lim - 1, nil},
		{rs(-api.Lim, -api.Lim), 2 * api.Lim, rs(api.Lim, api.Lim)}, {rs(-api.Lim, -api.Lim), 2*api.Lim + 1, nil},
		{rs(api.Lim, api.Lim), -2 * api.Lim, rs(-api.Lim, -api.Lim)}, {rs(api.Lim, api.Lim), -2*api.Lim - 1, nil},
		{rs(-api.Lim, api.Lim), 2 * api.Lim, rs(api.Lim, api.Lim)}, {rs(-api.Lim, api.Lim), 3, rs(-api.Lim+3, api.Lim)},
		{rs(-api.Lim, api.Lim), -3, rs(-api.Lim, api.Lim-3)},
		{rs(math.MinInt, math.MaxInt), math.MaxInt, nil}, {rs(math.MinInt, math.MaxInt), math.MinInt, nil},
		{rs(api.Lim+5, api.Lim+9), -9, nil}, {rs(api.Lim-1, api.Lim+9), -9, rs(api.Lim-10, api.Lim-9)},
		{rs(5, 6, 1, 2), 0, rs(1, 2, 5, 6)}, {nil, 3, nil},
	} {
		check(t, sets.Shift(x.s, x.k), x.want, "Shift", x.s, x.k)
	}
}

// P5.2: growing far, at the bounds, by nothing and by less.
func TestGrowFar(t *testing.T) {
	for _, x := range []struct {
		s    set
		k    int
		want set
	}{
		{rs(3, 4), 2, rs(1, 6)}, {rs(3, 4, 9, 9), 2, rs(1, 11)}, {rs(3, 4, 10, 10), 2, rs(1, 6, 8, 12)},
		{rs(3, 4), 0, rs(3, 4)}, {rs(3, 4), -1, rs(3, 4)}, {rs(3, 9, 1, 2), -5, rs(1, 9)}, {rs(3, 4), math.MinInt, rs(3, 4)},
		{rs(3, 4), math.MaxInt, rs(-api.Lim, api.Lim)}, {rs(0, 0), api.Lim - 1, rs(-api.Lim+1, api.Lim-1)},
		{rs(api.Lim, api.Lim), 2*api.Lim - 1, rs(-api.Lim+1, api.Lim)}, {rs(api.Lim, api.Lim), 2 * api.Lim, rs(-api.Lim, api.Lim)},
		{rs(-api.Lim, -api.Lim), 2*api.Lim - 1, rs(-api.Lim, api.Lim-1)},
		{rs(-api.Lim, -api.Lim), 2, rs(-api.Lim, -api.Lim+2)}, {rs(api.Lim+2, api.Lim+2), 5, nil}, {nil, 5, nil}, {rs(2, 1), 5, nil},
	} {
		check(t, sets.Grow(x.s, x.k), x.want, "Grow", x.s, x.k)
	}
}

// P5.2: clipped at the bounds, and by nothing.
func TestClipFar(t *testing.T) {
	all := rs(math.MinInt, math.MaxInt)
	for _, x := range []struct {
		s      set
		lo, hi int
		want   set
	}{
		{all, math.MinInt, math.MaxInt, rs(-api.Lim, api.Lim)}, {all, 3, 3, rs(3, 3)}, {all, 4, 3, nil}, {all, math.MaxInt, math.MinInt, nil},
		{all, api.Lim, math.MaxInt, rs(api.Lim, api.Lim)}, {all, api.Lim + 1, math.MaxInt, nil}, {all, math.MinInt, -api.Lim - 1, nil},
		{rs(5, 9, 1, 3), 2, 6, rs(2, 3, 5, 6)}, {rs(1, 3, 5, 9), 4, 4, nil}, {rs(1, 3, 5, 9), 3, 5, rs(3, 3, 5, 5)}, {nil, 0, 9, nil},
	} {
		check(t, sets.Clip(x.s, x.lo, x.hi), x.want, "Clip", x.s, x.lo, x.hi)
	}
}

// P5.3: more than 400 runs, of what counts as the set.
func TestWide(t *testing.T) {
	spread := func(n, step int) set {
		var s set
		for i := range n {
			s = append(s, api.Run{Lo: i * step, Hi: i * step})
		}
		return s
	}
	for _, x := range []struct {
		s    set
		want bool
	}{
		{nil, false}, {spread(1, 2), false}, {spread(399, 2), false}, {spread(400, 2), false}, {spread(401, 2), true}, {spread(2000, 3), true},
		{spread(2000, 1), false}, {spread(2000, 0), false}, {append(spread(400, 2), rs(9, 8, 0, 0, math.MaxInt, math.MaxInt)...), false},
		{append(spread(400, 2), rs(-5, -5)...), true}, {append(spread(401, 2), rs(1, 1)...), false},
	} {
		if sets.Wide(x.s) != x.want {
			t.Errorf("Wide of %d runs is not %v", len(x.s), x.want)
		}
	}
}

// The words: each argument counts as its set, each answer is one.
func TestAnswersAreSets(t *testing.T) {
	r := rand.New(rand.NewSource(55))
	for range 1000 {
		a, b, k := some(r), some(r), r.Intn(30)
		ma, mb := runs.Make(a), runs.Make(b)
		for i, x := range [][2]set{
			{sets.Union(a, b), sets.Union(ma, mb)}, {sets.Meet(a, b), sets.Meet(ma, mb)}, {sets.Minus(a, b), sets.Minus(ma, mb)},
			{sets.Shift(a, k), sets.Shift(ma, k)}, {sets.Grow(a, k), sets.Grow(ma, k)}, {sets.Clip(a, 0, k), sets.Clip(ma, 0, k)},
		} {
			if !runs.Sane(x[0]) || !slices.Equal(x[0], x[1]) {
				t.Errorf("call %d of %v, %v, %d: %v, not %v", i, a, b, k, x[0], x[1])
			}
		}
	}
}
