// Package ints is layer 1, whole numbers, with what goes wrong told: see shared/doc/01-ints.md.
package ints

import "math"

// Floor is the greatest whole number that, b times, is no more than a; 0 of a b below 1.
func Floor(a, b int) int {
	if b < 1 {
		return 0
	}
	if a%b < 0 {
		return a/b - 1
	}
	return a / b
}

// Mod is what a has more than b times Floor(a, b), 0 to b - 1; 0 of a b below 1.
func Mod(a, b int) int {
	if b < 1 {
		return 0
	}
	rest := a % b
	if rest < 0 {
		rest += b
	}
	return rest
}

// Add is the sum, true; 0, false, if no int holds it.
func Add(a, b int) (int, bool) {
	if b > 0 && a > math.MaxInt-b {
		goto tooGreat
	}
	if b < 0 && a < math.MinInt-b {
		goto tooGreat
	}
	return a + b, true

tooGreat:
	return 0, false
}

// Mul is the product, true; 0, false, if no int holds it.
func Mul(a, b int) (int, bool) {
	product := a * b
	if a == 0 {
		return 0, true
	}
	// The one product that, divided again, would wrap round and seem right.
	if a == -1 && b == math.MinInt {
		goto tooGreat
	}
	if product/a != b {
		goto tooGreat
	}
	return product, true

tooGreat:
	return 0, false
}

// Clamp is n, kept within lo to hi; lo, if lo is above hi.
func Clamp(n, lo, hi int) int {
	if n < lo || hi < lo {
		return lo
	}
	return min(n, hi)
}
