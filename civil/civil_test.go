package civil_test

import (
	"math"
	"testing"
	"time"

	"lustrum/api"
	"lustrum/civil"
)

// wild are numbers that are no year, no month and no day.
var wild = []int{math.MinInt, math.MinInt + 1, -146097, -400, -13, -12, -2, -1, 10000, 10001, 1 << 32, math.MaxInt - 1, math.MaxInt}

// lengths are those of the months of an ordinary year.
var lengths = []int{31, 28, 31, 30, 31, 30, 31, 31, 30, 31, 30, 31}

// P2.1: leap years, of any year.
func TestLeap(t *testing.T) {
	for y := -1300; y <= 10400; y++ {
		want := y%4 == 0
		if y%100 == 0 {
			want = y%400 == 0
		}
		if civil.Leap(y) != want {
			t.Errorf("Leap(%d) is not %v", y, want)
		}
	}
	for y, want := range map[int]bool{0: true, 4: true, 100: false, 400: true, 1900: false, 2000: true, 1984: true, 1985: false, -4: true, -100: false, -400: true, math.MinInt: true, math.MaxInt: false, math.MaxInt - 3: true} {
		if civil.Leap(y) != want {
			t.Errorf("Leap(%d) is not %v", y, want)
		}
	}
}

// P2.1: how many days a month has, in any year; 0 of what is no month.
func TestDays(t *testing.T) {
	for _, y := range []int{0, 1, 4, 100, 400, 1900, 1984, 1985, 2000, 9999, 10000, 10004, -1, -4, -100, -400, math.MinInt, math.MaxInt} {
		for m := 1; m <= 12; m++ {
			want := lengths[m-1]
			if m == 2 && (y%4 == 0 && y%100 != 0 || y%400 == 0) {
				want = 29
			}
			if n := civil.Days(y, m); n != want {
				t.Errorf("Days(%d, %d): %d, not %d", y, m, n, want)
			}
		}
		for _, m := range append([]int{0, 13, 14, 24, 25, 100}, wild...) {
			if n := civil.Days(y, m); n != 0 {
				t.Errorf("Days(%d, %d): %d, not 0", y, m, n)
			}
		}
	}
}

// P2.1: what is a date, and what is none; of what is none there is no number.
func TestValid(t *testing.T) {
	for _, y := range []int{0, 1, 4, 1900, 1984, 2000, 9999, 10000, -1, -4, 10004, math.MinInt, math.MaxInt} {
		for m := -1; m <= 14; m++ {
			for d := -1; d <= 33; d++ {
				want := y >= 0 && y <= 9999 && m >= 1 && m <= 12 && d >= 1 && d <= civil.Days(y, m)
				if civil.Valid(y, m, d) != want {
					t.Errorf("Valid(%d, %d, %d) is not %v", y, m, d, want)
				}
				if n, ok := civil.Number(y, m, d); ok != want || !ok && n != 0 {
					t.Errorf("Number(%d, %d, %d): %d, %v", y, m, d, n, ok)
				}
			}
		}
	}
	for _, a := range wild {
		for _, x := range [][3]int{{a, a, a}, {a, 1, 1}, {1984, a, 1}, {1984, 1, a}} {
			if civil.Valid(x[0], x[1], x[2]) {
				t.Errorf("Valid%v", x)
			}
			if n, ok := civil.Number(x[0], x[1], x[2]); n != 0 || ok {
				t.Errorf("Number%v: %d, %v", x, n, ok)
			}
		}
	}
}

// P2.2 and P2.3: all days, one behind the other, with their dates, numbers and days of the week.
func TestAllDays(t *testing.T) {
	n, week := 0, 5
	for y := 0; y <= 9999; y++ {
		for m := 1; m <= 12; m++ {
			for d := 1; d <= civil.Days(y, m); d++ {
				if i, ok := civil.Number(y, m, d); i != n || !ok {
					t.Fatalf("Number(%d, %d, %d): %d, %v, not %d", y, m, d, i, ok, n)
				}
				if a, b, c := civil.Date(n); a != y || b != m || c != d {
					t.Fatalf("Date(%d): %d, %d, %d, not %d, %d, %d", n, a, b, c, y, m, d)
				}
				if w := civil.Weekday(n); w != week {
					t.Fatalf("Weekday(%d): %d, not %d", n, w, week)
				}
				n, week = n+1, (week+1)%7
			}
		}
	}
	if n != api.MaxDay+1 {
		t.Errorf("%d days", n)
	}
}

// P2.2: the library's calendar says the same.
func TestAgainstTime(t *testing.T) {
	zero := time.Date(0, 1, 1, 0, 0, 0, 0, time.UTC)
	for n := 0; n <= api.MaxDay; n += 97 {
		want := zero.AddDate(0, 0, n)
		y, m, d := civil.Date(n)
		if y != want.Year() || m != int(want.Month()) || d != want.Day() {
			t.Fatalf("Date(%d): %d, %d, %d, not %v", n, y, m, d, want)
		}
		if w := civil.Weekday(n); w != (int(want.Weekday())+6)%7 {
			t.Fatalf("Weekday(%d): %d, not a %v", n, w, want.Weekday())
		}
	}
}

// P2.2: the document's examples and the ends.
func TestNumbersByHand(t *testing.T) {
	for _, x := range []struct{ y, m, d, n, week int }{
		{0, 1, 1, 0, 5}, {0, 1, 2, 1, 6}, {0, 1, 3, 2, 0}, {0, 12, 31, 365, 6}, {1, 1, 1, 366, 0},
		{2000, 1, 1, 730485, 5}, {2000, 2, 29, 730544, 1}, {1984, 1, 1, 724641, 6}, {9999, 12, 31, 3652424, 4},
	} {
		if n, ok := civil.Number(x.y, x.m, x.d); n != x.n || !ok {
			t.Errorf("Number of %v: %d, %v", x, n, ok)
		}
		if w := civil.Weekday(x.n); w != x.week {
			t.Errorf("Weekday of %v: %d", x, w)
		}
	}
}

// P2.2: numbers of no day.
func TestNoDay(t *testing.T) {
	for _, n := range []int{-1, -2, -7, -146097, api.MaxDay + 1, api.MaxDay + 2, api.Lim, -api.Lim, math.MinInt, math.MaxInt} {
		if y, m, d := civil.Date(n); y != 0 || m != 0 || d != 0 {
			t.Errorf("Date(%d): %d, %d, %d", n, y, m, d)
		}
		if w := civil.Weekday(n); w != -1 {
			t.Errorf("Weekday(%d): %d", n, w)
		}
	}
}

// P2.3: 400 years have 146097 days.
func TestFourHundredYears(t *testing.T) {
	for y := 0; y+400 <= 9999; y++ {
		a, _ := civil.Number(y, 3, 1)
		b, _ := civil.Number(y+400, 3, 1)
		if b-a != 146097 {
			t.Errorf("from %d on: %d days", y, b-a)
		}
	}
}
