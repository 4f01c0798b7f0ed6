package image_test

import (
	"math"
	"math/rand"
	"slices"
	"testing"

	"lustrum/api"
	"lustrum/image"
	"lustrum/runs"
	"lustrum/unit"
)

type set = []api.Run

// rs tells the runs from each first to each second number.
func rs(n ...int) set {
	var s set
	for i := 0; i+1 < len(n); i += 2 {
		s = append(s, api.Run{Lo: n[i], Hi: n[i+1]})
	}
	return s
}

var (
	kinds   = []int{api.Day, api.Month, api.Season, api.Year, api.Decade, api.Century}
	noKinds = []int{-1, 6, 7, math.MinInt, math.MaxInt}
	all     = rs(math.MinInt, math.MaxInt)
)

// spread tells n numbers from lo on, each so far from the other.
func spread(lo, n, step int) set {
	var s set
	for i := range n {
		s = append(s, api.Run{Lo: lo + i*step, Hi: lo + i*step})
	}
	return s
}

// check holds an answer against the set that is wanted; a nil set is wanted beside false.
func check(t *testing.T, got set, ok bool, want set, wantOK bool, told ...any) {
	t.Helper()
	if !slices.Equal(got, want) || ok != wantOK {
		t.Errorf("%v: %v, %v, not %v, %v", told, got, ok, want, wantOK)
	}
}

// P7.1: first days, last days and all days, unit by unit.
func TestUnitByUnit(t *testing.T) {
	r := rand.New(rand.NewSource(7))
	for range 600 {
		kind := kinds[r.Intn(len(kinds))]
		var s set
		for range r.Intn(6) {
			lo := r.Intn(unit.Count(kind)+20) - 10
			s = append(s, api.Run{Lo: lo, Hi: lo + r.Intn(8) - 2})
		}
		before := slices.Clone(s)
		var firsts, lasts []int
		var days set
		for _, x := range s {
			for i := x.Lo; i <= x.Hi; i++ {
				if first, ok := unit.First(kind, i); ok {
					last, _ := unit.Last(kind, i)
					firsts, lasts, days = append(firsts, first), append(lasts, last), append(days, api.Run{Lo: first, Hi: last})
				}
			}
		}
		got, ok := image.Starts(kind, s)
		check(t, got, ok, runs.Of(firsts), true, "Starts", kind, s)
		got, ok = image.Ends(kind, s)
		check(t, got, ok, runs.Of(lasts), true, "Ends", kind, s)
		check(t, image.Cover(kind, s), true, runs.Make(days), true, "Cover", kind, s)
		if !slices.Equal(s, before) {
			t.Errorf("%v was changed", before)
		}
	}
}

// P7.1: how many runs are too many: 401 first days, of which no two are neighbours; of days, 401 runs.
func TestTooManyRuns(t *testing.T) {
	for _, kind := range kinds {
		for _, x := range []struct {
			s  set
			ok bool
		}{
			{rs(0, 399), true}, {rs(0, 400), kind == api.Day || kind == api.Century}, {spread(0, 400, 2), true},
			{spread(0, 401, 2), kind == api.Century}, {append(spread(0, 400, 2), rs(-9, -1)...), true},
			{append(rs(1, 398), rs(399, 399, 0, 0, 5, 300)...), true}, {append(spread(0, 400, 2), rs(-api.Lim, -1, api.Lim, api.Lim)...), true},
			{all, kind == api.Day || kind == api.Century},
		} {
			starts, ok := image.Starts(kind, x.s)
			if ok != x.ok || !ok && len(starts) > 0 {
				t.Errorf("Starts, kind %d, %d runs from %v on: %d, %v", kind, len(x.s), x.s[0], len(starts), ok)
			}
			ends, ok := image.Ends(kind, x.s)
			if ok != x.ok || !ok && len(ends) > 0 {
				t.Errorf("Ends, kind %d, %d runs from %v on: %d, %v", kind, len(x.s), x.s[0], len(ends), ok)
			}
		}
	}
	got, ok := image.Starts(api.Month, rs(0, 399))
	if runs.Count(got) != 400 || len(got) != 400 || !ok {
		t.Errorf("first days of 400 months: %d", len(got))
	}
	got, ok = image.Ends(api.Day, all)
	check(t, got, ok, rs(0, api.MaxDay), true, "last days of all days")
	got, ok = image.Starts(api.Day, append(spread(0, 401, 2), rs(1, 1)...))
	check(t, got, ok, append(rs(0, 2), spread(4, 399, 2)...), true, "400 runs of days in other order")
}

// P7.1 and R1: kinds that are none, and units that are none.
func TestNothing(t *testing.T) {
	for _, kind := range noKinds {
		for _, s := range []set{nil, all, rs(0, 5), rs(5, 0)} {
			got, ok := image.Starts(kind, s)
			check(t, got, ok, nil, true, "Starts", kind, s)
			got, ok = image.Ends(kind, s)
			check(t, got, ok, nil, true, "Ends", kind, s)
			check(t, image.Cover(kind, s), true, nil, true, "Cover", kind, s)
		}
		check(t, image.Inside(kind, 0, api.MaxDay), true, nil, true, "Inside", kind)
		check(t, image.Touch(kind, 0, api.MaxDay), true, nil, true, "Touch", kind)
	}
	for _, kind := range kinds {
		for _, s := range []set{nil, rs(5, 0), rs(math.MinInt, -1), rs(unit.Count(kind), math.MaxInt)} {
			got, ok := image.Starts(kind, s)
			check(t, got, ok, nil, true, "Starts", kind, s)
			got, ok = image.Ends(kind, s)
			check(t, got, ok, nil, true, "Ends", kind, s)
			check(t, image.Cover(kind, s), true, nil, true, "Cover", kind, s)
		}
	}
}

// P7.1: all days of all units: but for January and February of year 0 of seasons.
func TestCoverOfAll(t *testing.T) {
	for _, kind := range kinds {
		want := rs(0, api.MaxDay)
		if kind == api.Season {
			want = rs(60, api.MaxDay)
		}
		check(t, image.Cover(kind, all), true, want, true, "Cover of all", kind)
	}
	check(t, image.Cover(api.Year, rs(1985, 1985, 1984, 1984, 1990, 1990)), true, rs(724641, 725371, 726833, 727197), true, "three years")
}

// wanted tells by First and Last of each unit which are inside, and which touch.
func wanted(kind, lo, hi int) (inside, touch set) {
	var in, near []int
	for i := range unit.Count(kind) {
		first, _ := unit.First(kind, i)
		last, _ := unit.Last(kind, i)
		if first >= lo && last <= hi {
			in = append(in, i)
		}
		if first <= hi && last >= lo && lo <= hi {
			near = append(near, i)
		}
	}
	return runs.Of(in), runs.Of(near)
}

// P7.2 and P7.3: which units are inside, and which touch, about the edges of units, and far out.
func TestInsideAndTouch(t *testing.T) {
	r := rand.New(rand.NewSource(72))
	for _, kind := range []int{api.Season, api.Year, api.Decade, api.Century, api.Month} {
		for range 60 {
			i := r.Intn(unit.Count(kind))
			j := min(unit.Count(kind)-1, i+r.Intn(3))
			first, _ := unit.First(kind, i)
			last, _ := unit.Last(kind, j)
			lo, hi := first+r.Intn(3)-1, last+r.Intn(3)-1
			inside, touch := wanted(kind, lo, hi)
			check(t, image.Inside(kind, lo, hi), true, inside, true, "Inside", kind, lo, hi)
			check(t, image.Touch(kind, lo, hi), true, touch, true, "Touch", kind, lo, hi)
		}
	}
}

// P7.2: bounds that are far out, the wrong way round, or ahead of all seasons.
func TestInsideAndTouchAtTheEnds(t *testing.T) {
	bounds := []int{math.MinInt, -1, 0, 1, 30, 31, 59, 60, 61, 151, 152, 365, 366, 3652393, 3652394, 3652423, 3652424, 3652425, math.MaxInt}
	for _, kind := range []int{api.Season, api.Year, api.Decade, api.Century, api.Month} {
		for _, lo := range bounds {
			for _, hi := range bounds {
				if kind == api.Month && hi-lo > 1000 && lo != math.MinInt {
					continue
				}
				inside, touch := wanted(kind, lo, hi)
				check(t, image.Inside(kind, lo, hi), true, inside, true, "Inside", kind, lo, hi)
				check(t, image.Touch(kind, lo, hi), true, touch, true, "Touch", kind, lo, hi)
			}
		}
	}
	for _, lo := range bounds {
		for _, hi := range bounds {
			want := runs.Make(rs(max(lo, 0), min(hi, api.MaxDay)))
			check(t, image.Inside(api.Day, lo, hi), true, want, true, "Inside, of days", lo, hi)
			check(t, image.Touch(api.Day, lo, hi), true, want, true, "Touch, of days", lo, hi)
		}
	}
}

// P7.3: a day is covered just if its unit is there.
func TestCoveredDays(t *testing.T) {
	r := rand.New(rand.NewSource(73))
	for range 200 {
		kind := kinds[r.Intn(len(kinds))]
		s := rs(r.Intn(unit.Count(kind)), r.Intn(unit.Count(kind)), r.Intn(unit.Count(kind)), r.Intn(unit.Count(kind)))
		cover := image.Cover(kind, s)
		for range 200 {
			day := r.Intn(api.MaxDay+200) - 100
			i, ok := unit.Of(kind, day)
			if runs.Has(cover, day) != (ok && runs.Has(s, i)) {
				t.Errorf("kind %d, %v: day %d", kind, s, day)
			}
		}
	}
}

// The document's examples.
func TestExamples(t *testing.T) {
	got, ok := image.Starts(api.Month, rs(24000, 24001))
	check(t, got, ok, rs(730485, 730485, 730516, 730516), true, "Starts of 2000-01 and 2000-02")
	got, ok = image.Ends(api.Month, rs(24000, 24001))
	check(t, got, ok, rs(730515, 730515, 730544, 730544), true, "Ends of 2000-01 and 2000-02")
	check(t, image.Inside(api.Year, 730485, 731031), true, rs(2000, 2000), true, "Inside, of years")
	check(t, image.Touch(api.Year, 730485, 731031), true, rs(2000, 2001), true, "Touch, of years")
}
