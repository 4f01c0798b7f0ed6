package unit_test

import (
	"math"
	"testing"

	"lustrum/api"
	"lustrum/civil"
	"lustrum/unit"
)

var kinds = []int{api.Day, api.Month, api.Season, api.Year, api.Decade, api.Century}

// noKinds and noNumbers are of no unit at all.
var (
	noKinds   = []int{-1, -2, 6, 7, 100, math.MinInt, math.MaxInt}
	noNumbers = []int{-1, -2, -12, api.MaxDay + 1, api.MaxDay + 2, api.Lim, -api.Lim, math.MinInt, math.MaxInt}
)

// ofDate tells the number of the unit in which a date is, by the document's words; -1, if there is none.
func ofDate(kind, day, y, m int) int {
	switch kind {
	case api.Month:
		return 12*y + m - 1
	case api.Season:
		switch {
		case m <= 2:
			return 4*(y-1) + 3 // of year 0: -1
		case m <= 5:
			return 4 * y
		case m <= 8:
			return 4*y + 1
		case m <= 11:
			return 4*y + 2
		}
		return 4*y + 3
	case api.Year:
		return y
	case api.Decade:
		return y / 10
	case api.Century:
		return y / 100
	}
	return day
}

// P3.1
func TestCount(t *testing.T) {
	for kind, want := range []int{3652425, 120000, 40000, 10000, 1000, 100} {
		if n := unit.Count(kind); n != want {
			t.Errorf("Count(%d): %d, not %d", kind, n, want)
		}
	}
	for _, kind := range noKinds {
		if n := unit.Count(kind); n != 0 {
			t.Errorf("Count(%d): %d, not 0", kind, n)
		}
	}
}

// P3.2, P3.3 and P3.4: each day is in the unit that the document tells, and each unit is from its first day to its last one.
func TestAllDays(t *testing.T) {
	for _, kind := range kinds {
		first, last := map[int]int{}, map[int]int{}
		for day := 0; day <= api.MaxDay; day++ {
			if kind == api.Day && day%7 > 0 {
				continue
			}
			y, m, _ := civil.Date(day)
			want := ofDate(kind, day, y, m)
			i, ok := unit.Of(kind, day)
			if ok != (want >= 0) || ok && i != want || !ok && i != 0 {
				t.Fatalf("Of(%d, %d): %d, %v, not %d", kind, day, i, ok, want)
			}
			if _, seen := first[i]; !seen && ok {
				first[i] = day
			}
			if ok {
				last[i] = day
			}
		}
		if kind != api.Day && len(first) != unit.Count(kind) {
			t.Fatalf("kind %d: %d units have days", kind, len(first))
		}
		for i := range first {
			if n, ok := unit.First(kind, i); n != first[i] || !ok {
				t.Fatalf("First(%d, %d): %d, %v, not %d", kind, i, n, ok, first[i])
			}
			if n, ok := unit.Last(kind, i); n != last[i] || !ok {
				t.Fatalf("Last(%d, %d): %d, %v, not %d", kind, i, n, ok, last[i])
			}
		}
	}
}

// P3.4: units of a kind follow one another.
func TestUnitsFollowOneAnother(t *testing.T) {
	for _, kind := range kinds {
		for i := 1; i < unit.Count(kind); i++ {
			last, _ := unit.Last(kind, i-1)
			first, _ := unit.First(kind, i)
			if first != last+1 {
				t.Fatalf("kind %d, unit %d: %d behind %d", kind, i, first, last)
			}
		}
	}
}

// P3.4: a month is in one season at most, in one year, one decade, one century.
func TestUnitsInUnits(t *testing.T) {
	for i := range unit.Count(api.Month) {
		first, _ := unit.First(api.Month, i)
		last, _ := unit.Last(api.Month, i)
		for _, kind := range []int{api.Month, api.Season, api.Year, api.Decade, api.Century} {
			a, ok := unit.Of(kind, first)
			b, also := unit.Of(kind, last)
			if a != b || ok != also || ok == (kind == api.Season && i < 2) {
				t.Fatalf("month %d, kind %d: %d, %v and %d, %v", i, kind, a, ok, b, also)
			}
		}
	}
}

// P3.2: the document's example, and both ends of each kind.
func TestByHand(t *testing.T) {
	day := func(y, m, d int) int {
		n, ok := civil.Number(y, m, d)
		if !ok {
			t.Fatal(y, m, d)
		}
		return n
	}
	for _, x := range []struct{ kind, i, first, last int }{
		{api.Day, 0, 0, 0}, {api.Day, api.MaxDay, api.MaxDay, api.MaxDay},
		{api.Month, 0, 0, 30}, {api.Month, 1, 31, 59}, {api.Month, 12*1999 + 11, day(1999, 12, 1), day(1999, 12, 31)},
		{api.Month, 24001, day(2000, 2, 1), day(2000, 2, 29)}, {api.Month, 119999, day(9999, 12, 1), api.MaxDay},
		{api.Season, 0, day(0, 3, 1), day(0, 5, 31)}, {api.Season, 1, day(0, 6, 1), day(0, 8, 31)},
		{api.Season, 2, day(0, 9, 1), day(0, 11, 30)}, {api.Season, 3, day(0, 12, 1), day(1, 2, 28)},
		{api.Season, 7999, day(1999, 12, 1), day(2000, 2, 29)}, {api.Season, 39998, day(9999, 9, 1), day(9999, 11, 30)},
		{api.Season, 39999, day(9999, 12, 1), api.MaxDay},
		{api.Year, 0, 0, 365}, {api.Year, 1984, day(1984, 1, 1), day(1984, 12, 31)}, {api.Year, 9999, day(9999, 1, 1), api.MaxDay},
		{api.Decade, 0, 0, day(9, 12, 31)}, {api.Decade, 198, day(1980, 1, 1), day(1989, 12, 31)}, {api.Decade, 999, day(9990, 1, 1), api.MaxDay},
		{api.Century, 0, 0, day(99, 12, 31)}, {api.Century, 19, day(1900, 1, 1), day(1999, 12, 31)}, {api.Century, 99, day(9900, 1, 1), api.MaxDay},
	} {
		if n, ok := unit.First(x.kind, x.i); n != x.first || !ok {
			t.Errorf("First(%d, %d): %d, %v, not %d", x.kind, x.i, n, ok, x.first)
		}
		if n, ok := unit.Last(x.kind, x.i); n != x.last || !ok {
			t.Errorf("Last(%d, %d): %d, %v, not %d", x.kind, x.i, n, ok, x.last)
		}
	}
}

// P3.2 and P3.3: where there is no unit.
func TestNoUnit(t *testing.T) {
	none := func(kind, i int) {
		if n, ok := unit.First(kind, i); n != 0 || ok {
			t.Errorf("First(%d, %d): %d, %v", kind, i, n, ok)
		}
		if n, ok := unit.Last(kind, i); n != 0 || ok {
			t.Errorf("Last(%d, %d): %d, %v", kind, i, n, ok)
		}
	}
	noOf := func(kind, day int) {
		if n, ok := unit.Of(kind, day); n != 0 || ok {
			t.Errorf("Of(%d, %d): %d, %v", kind, day, n, ok)
		}
	}
	for _, kind := range kinds {
		none(kind, unit.Count(kind))
		none(kind, unit.Count(kind)+1)
		for _, i := range noNumbers {
			none(kind, i)
			noOf(kind, i)
		}
	}
	for _, kind := range noKinds {
		for _, i := range append([]int{0, 1, 1984, api.MaxDay}, noNumbers...) {
			none(kind, i)
			noOf(kind, i)
		}
	}
	for day := range 60 { // January and February of year 0
		noOf(api.Season, day)
	}
	if i, ok := unit.Of(api.Season, 60); i != 0 || !ok {
		t.Errorf("season of day 60: %d, %v", i, ok)
	}
}
