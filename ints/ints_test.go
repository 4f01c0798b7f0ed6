package ints_test

import (
	"math"
	"math/big"
	"testing"

	"lustrum/ints"
)

// edges are the numbers at which whole numbers of 64 bits go wrong, and some ordinary ones.
func edges() []int {
	l := []int{math.MinInt, math.MaxInt, 1 << 31, 1 << 32, -1 << 31, -1 << 32, 3037000499, 3037000500, -3037000500, 146097, 400, 365, 100}
	for i := -12; i <= 12; i++ {
		l = append(l, i, math.MaxInt/2+i, math.MinInt/2+i, math.MaxInt/3+i, math.MinInt/3+i)
	}
	for i := range 12 {
		l = append(l, math.MinInt+i, math.MaxInt-i)
	}
	return l
}

// P1.1: the greatest whole number that, b times, is no more than a.
func TestFloorAndModOfEdges(t *testing.T) {
	for _, a := range edges() {
		for _, b := range edges() {
			q, r := ints.Floor(a, b), ints.Mod(a, b)
			if b < 1 {
				if q != 0 || r != 0 {
					t.Errorf("Floor, Mod of %d, %d: %d, %d, not 0, 0", a, b, q, r)
				}
				continue
			}
			// big's Euclidean division is the floor where the divisor is above 0.
			wantQ, wantR := new(big.Int).DivMod(big.NewInt(int64(a)), big.NewInt(int64(b)), new(big.Int))
			if int64(q) != wantQ.Int64() || int64(r) != wantR.Int64() {
				t.Errorf("Floor, Mod of %d, %d: %d, %d, not %d, %d", a, b, q, r, wantQ, wantR)
			}
		}
	}
}

// P1.1: the document's example, and divisors below 1.
func TestFloorAndModByHand(t *testing.T) {
	for _, x := range []struct{ a, b, q, r int }{
		{-7, 2, -4, 1}, {7, 2, 3, 1}, {-8, 2, -4, 0}, {8, 2, 4, 0}, {0, 5, 0, 0}, {-1, 5, -1, 4},
		{5, 0, 0, 0}, {-5, 0, 0, 0}, {7, -2, 0, 0}, {-7, -2, 0, 0}, {7, -1, 0, 0},
		{math.MinInt, math.MinInt, 0, 0}, {math.MinInt, -1, 0, 0}, {math.MinInt, 1, math.MinInt, 0},
		{math.MinInt, math.MaxInt, -2, math.MaxInt - 1},
	} {
		if q, r := ints.Floor(x.a, x.b), ints.Mod(x.a, x.b); q != x.q || r != x.r {
			t.Errorf("Floor, Mod of %d, %d: %d, %d, not %d, %d", x.a, x.b, q, r, x.q, x.r)
		}
	}
}

// fits tells a number as an int, and whether it is one of -2^63 to 2^63 - 1.
func fits(n *big.Int) (int, bool) {
	if !n.IsInt64() {
		return 0, false
	}
	return int(n.Int64()), true
}

// P1.2: the sum and the product, or 0, false.
func TestAddAndMulOfEdges(t *testing.T) {
	for _, a := range edges() {
		for _, b := range edges() {
			x, y := big.NewInt(int64(a)), big.NewInt(int64(b))
			want, fit := fits(new(big.Int).Add(x, y))
			if n, ok := ints.Add(a, b); n != want || ok != fit {
				t.Errorf("Add of %d, %d: %d, %v, not %d, %v", a, b, n, ok, want, fit)
			}
			want, fit = fits(new(big.Int).Mul(x, y))
			if n, ok := ints.Mul(a, b); n != want || ok != fit {
				t.Errorf("Mul of %d, %d: %d, %v, not %d, %v", a, b, n, ok, want, fit)
			}
		}
	}
}

// P1.2: the ends of what an int holds, by hand.
func TestAddAndMulByHand(t *testing.T) {
	for _, x := range []struct {
		a, b, n int
		ok      bool
	}{
		{2, 3, 5, true}, {math.MaxInt, 0, math.MaxInt, true}, {math.MaxInt, 1, 0, false}, {1, math.MaxInt, 0, false},
		{math.MinInt, -1, 0, false}, {-1, math.MinInt, 0, false}, {math.MinInt, math.MaxInt, -1, true},
		{math.MinInt, math.MinInt, 0, false}, {math.MaxInt, math.MaxInt, 0, false}, {math.MaxInt - 1, 1, math.MaxInt, true},
	} {
		if n, ok := ints.Add(x.a, x.b); n != x.n || ok != x.ok {
			t.Errorf("Add of %d, %d: %d, %v", x.a, x.b, n, ok)
		}
	}
	for _, x := range []struct {
		a, b, n int
		ok      bool
	}{
		{1 << 32, 1 << 31, 0, false}, {1 << 32, -1 << 31, math.MinInt, true}, {-1 << 32, 1 << 31, math.MinInt, true},
		{-1 << 32, -1 << 31, 0, false}, {math.MinInt, -1, 0, false}, {-1, math.MinInt, 0, false},
		{math.MinInt, 1, math.MinInt, true}, {1, math.MinInt, math.MinInt, true}, {0, math.MinInt, 0, true},
		{math.MinInt, 0, 0, true}, {math.MinInt, math.MinInt, 0, false}, {math.MaxInt, -1, -math.MaxInt, true},
		{1 << 32, 1 << 32, 0, false}, {-6, 7, -42, true},
	} {
		if n, ok := ints.Mul(x.a, x.b); n != x.n || ok != x.ok {
			t.Errorf("Mul of %d, %d: %d, %v", x.a, x.b, n, ok)
		}
	}
}

// P1.3: lo, if n is below it; else hi, if n is above it; lo, where lo is above hi.
func TestClamp(t *testing.T) {
	for _, x := range []struct{ n, lo, hi, want int }{
		{3, 1, 5, 3}, {1, 1, 5, 1}, {5, 1, 5, 5}, {0, 1, 5, 1}, {6, 1, 5, 5}, {9, 4, 4, 4}, {0, 4, 4, 4},
		{3, 5, 1, 5}, {9, 5, 1, 5}, {0, 5, 1, 5}, {5, 5, 1, 5}, {1, 5, 1, 5},
		{math.MinInt, -1, 1, -1}, {math.MaxInt, -1, 1, 1}, {0, math.MinInt, math.MaxInt, 0}, {0, math.MaxInt, math.MinInt, math.MaxInt},
	} {
		if n := ints.Clamp(x.n, x.lo, x.hi); n != x.want {
			t.Errorf("Clamp of %d, %d, %d: %d, not %d", x.n, x.lo, x.hi, n, x.want)
		}
	}
}

// P1.4: b times Floor and Mod lead back to a, Mod is 0 to b - 1.
func TestFloorAndModLeadBack(t *testing.T) {
	for a := -50; a <= 50; a++ {
		for b := 1; b <= 12; b++ {
			q, r := ints.Floor(a, b), ints.Mod(a, b)
			if b*q+r != a || r < 0 || r >= b {
				t.Errorf("%d times %d and %d: not %d", b, q, r, a)
			}
		}
	}
	for _, a := range edges() {
		for _, b := range edges() {
			if b < 1 {
				continue
			}
			product, ok := ints.Mul(b, ints.Floor(a, b))
			if !ok {
				continue // below -2^63, where only the sum is within again
			}
			if back, ok := ints.Add(product, ints.Mod(a, b)); !ok || back != a {
				t.Errorf("of %d and %d: back to %d, %v", a, b, back, ok)
			}
		}
	}
}
