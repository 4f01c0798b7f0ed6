package allen_test

import (
	"math"
	"slices"
	"testing"

	"lustrum/allen"
	"lustrum/api"
)

// names are the thirteen relations, by their numbers.
var names = []string{"before", "meets", "overlaps", "starts", "during", "finishes", "equals", "finished-by", "contains", "started-by", "overlapped-by", "met-by", "after"}

// noRelations are numbers of none.
var noRelations = []int{-1, -2, -12, -13, 13, 14, 26, 64, math.MinInt, math.MaxInt}

func pair(s, t int) api.Pair { return api.Pair{S: s, T: t} }

// holds tells by the document's words whether p stands in relation r to q; the days are small.
func holds(r int, p, q api.Pair) bool {
	s, t, u, v := p.S, p.T, q.S, q.T
	switch r {
	case 0:
		return t+1 < u
	case 1:
		return t+1 == u
	case 2:
		return s < u && u <= t && t < v
	case 3:
		return s == u && t < v
	case 4:
		return s > u && t < v
	case 5:
		return s > u && t == v
	case 6:
		return s == u && t == v
	case 7:
		return holds(5, q, p)
	case 8:
		return holds(4, q, p)
	case 9:
		return holds(3, q, p)
	case 10:
		return holds(2, q, p)
	case 11:
		return holds(1, q, p)
	}
	return holds(0, q, p)
}

// The relations' numbers are those of the document.
func TestNumbers(t *testing.T) {
	got := []int{allen.Before, allen.Meets, allen.Overlaps, allen.Starts, allen.During, allen.Finishes, allen.Equals, allen.FinishedBy, allen.Contains, allen.StartedBy, allen.OverlappedBy, allen.MetBy, allen.After}
	if !slices.Equal(got, []int{0, 1, 2, 3, 4, 5, 6, 7, 8, 9, 10, 11, 12}) {
		t.Error(got)
	}
}

// P18.1: all pairs of small days; just one relation holds, and its inverse the other way round.
func TestOf(t *testing.T) {
	for s := -3; s <= 4; s++ {
		for e := -3; e <= 4; e++ {
			for u := -3; u <= 4; u++ {
				for v := -3; v <= 4; v++ {
					p, q := pair(s, e), pair(u, v)
					r, ok := allen.Of(p, q)
					if s > e || u > v {
						if r != 0 || ok {
							t.Errorf("Of(%v, %v): %d, %v", p, q, r, ok)
						}
						continue
					}
					var all []int
					for i := range 13 {
						if holds(i, p, q) {
							all = append(all, i)
						}
					}
					if !ok || !slices.Equal(all, []int{r}) {
						t.Errorf("Of(%v, %v): %d, %v, not %v", p, q, r, ok, all)
					}
					back, _ := allen.Of(q, p)
					if inverse, ok := allen.Inverse(r); inverse != back || !ok {
						t.Errorf("Inverse(%d): %d, %v, not %d", r, inverse, ok, back)
					}
				}
			}
		}
	}
}

// P18.1: days at the ends of what an int holds.
func TestOfFarDays(t *testing.T) {
	lo, hi := math.MinInt, math.MaxInt
	for _, x := range []struct{ s, t, u, v, want int }{
		{lo, lo, hi, hi, 0}, {lo, lo, lo + 1, hi, 1}, {lo, lo, lo + 2, hi, 0}, {hi, hi, lo, lo, 12}, {hi, hi, lo, hi - 1, 11}, {hi, hi, lo, hi - 2, 12},
		{hi, hi, hi, hi, 6}, {lo, lo, lo, lo, 6}, {lo, hi, lo, hi, 6}, {0, hi, lo, hi, 5}, {lo, 0, lo, hi, 3}, {lo, hi, lo, lo, 9}, {lo, hi, hi, hi, 7}, {lo, hi, 0, 0, 8}, {0, 0, lo, hi, 4},
		{lo, 0, 0, hi, 2}, {0, hi, lo, 0, 10}, {lo, hi - 1, hi, hi, 1}, {lo, hi - 2, hi, hi, 0}, {lo + 1, hi, lo, lo, 11}, {lo + 2, hi, lo, lo, 12}, {0, hi, hi, hi, 7}, {hi, hi, 0, hi, 5}, {1, hi, lo, 0, 11},
	} {
		if r, ok := allen.Of(pair(x.s, x.t), pair(x.u, x.v)); r != x.want || !ok {
			t.Errorf("Of %v: %d, %v", x, r, ok)
		}
	}
	for _, p := range []api.Pair{pair(hi, lo), pair(1, 0), pair(0, lo), pair(hi, hi-1)} {
		for _, q := range []api.Pair{pair(0, 0), pair(lo, hi), pair(hi, lo)} {
			if r, ok := allen.Of(p, q); r != 0 || ok {
				t.Errorf("Of(%v, %v): %d", p, q, r)
			}
			if r, ok := allen.Of(q, p); r != 0 || ok {
				t.Errorf("Of(%v, %v): %d", q, p, r)
			}
		}
	}
}

// P18.1, P18.2 and P18.4: inverses and names.
func TestInverseAndNames(t *testing.T) {
	for r, want := range names {
		if i, ok := allen.Inverse(r); i != 12-r || !ok {
			t.Errorf("Inverse(%d): %d, %v", r, i, ok)
		}
		if s := allen.Name(r); s != want {
			t.Errorf("Name(%d): %q, not %q", r, s, want)
		}
		if i, ok := allen.Named(want); i != r || !ok {
			t.Errorf("Named(%q): %d, %v", want, i, ok)
		}
	}
	for _, r := range noRelations {
		if i, ok := allen.Inverse(r); i != 0 || ok {
			t.Errorf("Inverse(%d): %d, %v", r, i, ok)
		}
		if s := allen.Name(r); s != "" {
			t.Errorf("Name(%d): %q", r, s)
		}
	}
	for _, s := range []string{"", " ", "Before", "BEFORE", "before ", " before", "befor", "beforee", "finished", "finished by", "finishedby", "finished_by", "contain", "equal", "0", "6", "met-by\n", "\x00", "\xff", "count"} {
		if i, ok := allen.Named(s); i != 0 || ok {
			t.Errorf("Named(%q): %d, %v", s, i, ok)
		}
	}
}

// P18.3: all masks; higher bits count for nothing.
func TestFlipAndList(t *testing.T) {
	for mask := range 1 << 13 {
		flipped := 0
		var l []int
		for r := range 13 {
			if mask>>r&1 > 0 {
				flipped |= 1 << (12 - r)
				l = append(l, r)
			}
		}
		for _, m := range []int{mask, mask | 1<<13, mask | 1<<40, mask | math.MinInt, mask - 1<<13, mask | -1<<13} {
			if got := allen.Flip(m); got != flipped {
				t.Fatalf("Flip(%d): %d, not %d", m, got, flipped)
			}
			if got := allen.List(m); !slices.Equal(got, l) {
				t.Fatalf("List(%d): %v, not %v", m, got, l)
			}
		}
	}
	if l := allen.List(-1); len(l) != 13 || allen.Flip(-1) != 8191 || allen.Flip(math.MinInt) != 0 || allen.Flip(math.MaxInt) != 8191 {
		t.Error("masks of all, and of none")
	}
}

// The document's examples.
func TestExamples(t *testing.T) {
	if r, _ := allen.Of(pair(1, 3), pair(4, 9)); allen.Name(r) != "meets" {
		t.Error(r)
	}
	if r, _ := allen.Of(pair(1, 5), pair(4, 9)); allen.Name(r) != "overlaps" {
		t.Error(r)
	}
}
