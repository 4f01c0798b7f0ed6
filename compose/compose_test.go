package compose_test

import (
	"math"
	"math/rand"
	"testing"

	"lustrum/allen"
	"lustrum/api"
	"lustrum/compose"
)

// of is the mask of some relations.
func of(l ...int) int {
	mask := 0
	for _, r := range l {
		mask |= 1 << r
	}
	return mask
}

const all = 1<<13 - 1

// found is what three intervals of the days 0 to 6 show, for each two relations.
func found() [13][13]int {
	var l []api.Pair
	for s := range 7 {
		for t := s; t < 7; t++ {
			l = append(l, api.Pair{S: s, T: t})
		}
	}
	var table [13][13]int
	for _, p := range l {
		for _, q := range l {
			r, _ := allen.Of(p, q)
			for _, z := range l {
				s, _ := allen.Of(q, z)
				both, _ := allen.Of(p, z)
				table[r][s] |= 1 << both
			}
		}
	}
	return table
}

// P19.1: each two relations.
func TestCompose(t *testing.T) {
	table := found()
	for r := range 13 {
		for s := range 13 {
			if got := compose.Compose(r, s); got != table[r][s] {
				t.Errorf("%s, %s: %v, not %v", allen.Name(r), allen.Name(s), allen.List(got), allen.List(table[r][s]))
			}
		}
	}
}

// P19.1: by hand.
func TestComposeByHand(t *testing.T) {
	for _, x := range []struct{ r, s, want int }{
		{allen.Before, allen.Before, of(allen.Before)}, {allen.During, allen.Before, of(allen.Before)}, {allen.Before, allen.During, of(0, 1, 2, 3, 4)}, {allen.Before, allen.After, all}, {allen.During, allen.Contains, all},
		{allen.Meets, allen.Meets, of(allen.Before)}, {allen.Meets, allen.MetBy, of(allen.Finishes, allen.Equals, allen.FinishedBy)}, {allen.MetBy, allen.Meets, of(allen.Starts, allen.Equals, allen.StartedBy)}, {allen.Overlaps, allen.Overlaps, of(0, 1, 2)},
		{allen.Overlaps, allen.OverlappedBy, of(2, 3, 4, 5, 6, 7, 8, 9, 10)}, {allen.Contains, allen.During, of(2, 3, 4, 5, 6, 7, 8, 9, 10)}, {allen.Starts, allen.StartedBy, of(3, 6, 9)}, {allen.Finishes, allen.FinishedBy, of(5, 6, 7)}, {allen.After, allen.Before, all}, {allen.Starts, allen.Finishes, of(allen.During)},
	} {
		if got := compose.Compose(x.r, x.s); got != x.want {
			t.Errorf("%s, %s: %v", allen.Name(x.r), allen.Name(x.s), allen.List(got))
		}
	}
}

// P19.1: what is no relation.
func TestNoRelation(t *testing.T) {
	for _, r := range []int{-1, -2, 13, 14, 26, 63, 64, 65, math.MinInt, math.MaxInt} {
		for _, s := range []int{0, 6, 12, r, -1} {
			if got := compose.Compose(r, s); got != 0 {
				t.Errorf("Compose(%d, %d): %d", r, s, got)
			}
			if got := compose.Compose(s, r); got != 0 {
				t.Errorf("Compose(%d, %d): %d", s, r, got)
			}
		}
	}
}

// P19.1: masks, higher bits of which count for nothing.
func TestBoth(t *testing.T) {
	table, r := found(), rand.New(rand.NewSource(19))
	for i := range 600 {
		a, b := r.Intn(all+1), r.Intn(all+1)
		if i%3 == 0 {
			a &= r.Intn(all + 1)
			b &= r.Intn(all+1) & r.Intn(all+1)
		}
		want := 0
		for _, x := range allen.List(a) {
			for _, y := range allen.List(b) {
				want |= table[x][y]
			}
		}
		for _, m := range [][2]int{{a, b}, {a | 1<<13, b}, {a, b | 1<<40}, {a | math.MinInt, b - 1<<13}} {
			if got := compose.Both(m[0], m[1]); got != want {
				t.Fatalf("Both(%d, %d): %d, not %d", m[0], m[1], got, want)
			}
		}
	}
	for _, m := range []int{0, 1 << 13, math.MinInt, -1 << 13} {
		for _, n := range []int{0, 1, all, -1, math.MaxInt} {
			if compose.Both(m, n) != 0 || compose.Both(n, m) != 0 {
				t.Errorf("Both of %d and %d", m, n)
			}
		}
	}
	if compose.Both(-1, -1) != all || compose.Both(math.MaxInt, 64) != all {
		t.Error("Both of all")
	}
}

// P19.2: equals changes nothing; the other way round it is the inverses, composed the other way round.
func TestWhatFollows(t *testing.T) {
	for r := range 13 {
		if compose.Compose(r, allen.Equals) != 1<<r || compose.Compose(allen.Equals, r) != 1<<r {
			t.Errorf("%s and equals", allen.Name(r))
		}
		for s := range 13 {
			a, _ := allen.Inverse(s)
			b, _ := allen.Inverse(r)
			if compose.Compose(a, b) != allen.Flip(compose.Compose(r, s)) {
				t.Errorf("%s, %s, the other way round", allen.Name(r), allen.Name(s))
			}
		}
	}
	for r := range 200 {
		a, b := r*41%8192, r*97%8192
		if compose.Both(allen.Flip(b), allen.Flip(a)) != allen.Flip(compose.Both(a, b)) || compose.Both(a, 64) != a {
			t.Errorf("masks %d and %d", a, b)
		}
	}
}
