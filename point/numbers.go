package point

import (
	"iter"

	"lustrum/api"
	"lustrum/image"
	"lustrum/mask"
	"lustrum/sets"
	"lustrum/unit"
)

// growing is a set that runs are added to by rising numbers.
type growing struct {
	set []api.Run
}

// add adds a run, and tells whether there are still no more than MaxRuns.
func (g *growing) add(r api.Run) bool {
	last := len(g.set) - 1
	if last >= 0 && r.Lo <= g.set[last].Hi+1 {
		g.set[last].Hi = r.Hi
	} else {
		g.set = append(g.set, r)
	}
	return len(g.set) <= api.MaxRuns
}

// numbers is the set of the numbers of a point's units; false, if it has more than MaxRuns runs.
func numbers(p api.Point) ([]api.Run, bool) {
	years := mask.Set(p.Y)
	switch p.Kind {
	case api.Day:
		return days(years, p)
	case api.Month, api.Season:
		most := shapes[p.Kind].parts
		return gathered(partsOfYears(years, matching(p.M, most), most))
	}
	return years, !sets.Wide(years)
}

// days is the set of the days of a day's point; false, if it has more than MaxRuns runs.
func days(years []api.Run, p api.Point) ([]api.Run, bool) {
	most := shapes[api.Day].parts
	parts, known := matching(p.M, most), matching(p.D, longestMonth)
	if known[0] == (api.Run{Lo: 1, Hi: longestMonth}) {
		months, ok := gathered(partsOfYears(years, parts, most))
		return image.Cover(api.Month, months), ok // each run of months is one of days
	}
	months := partsOfYears(years, longEnough(parts, known[0].Lo), most)
	return gathered(daysOfMonths(months, known))
}

// gathered is the set of rising runs; false, and not all of them, if it has more than MaxRuns.
func gathered(l iter.Seq[api.Run]) ([]api.Run, bool) {
	var all growing
	for r := range l {
		if !all.add(r) {
			return nil, false
		}
	}
	return all.set, true
}

// partsOfYears goes over the numbers of some parts (1 to most) of some years, by rising runs.
func partsOfYears(years, parts []api.Run, most int) iter.Seq[api.Run] {
	return func(yield func(api.Run) bool) {
		for _, r := range years {
			if len(parts) == 1 && parts[0].Lo == 1 && parts[0].Hi == most {
				if !yield(api.Run{Lo: most * r.Lo, Hi: most*r.Hi + most - 1}) {
					return
				}
				continue
			}
			for y := r.Lo; y <= r.Hi; y++ {
				for _, part := range parts {
					if !yield(api.Run{Lo: most*y + part.Lo - 1, Hi: most*y + part.Hi - 1}) {
						return
					}
				}
			}
		}
	}
}

// daysOfMonths goes over the known days (1 to 31) of some months, as far as these have them, by rising runs.
func daysOfMonths(months iter.Seq[api.Run], known []api.Run) iter.Seq[api.Run] {
	return func(yield func(api.Run) bool) {
		for r := range months {
			for month := r.Lo; month <= r.Hi; month++ {
				first, _ := unit.First(api.Month, month)
				last, _ := unit.Last(api.Month, month)
				for _, d := range known {
					day := api.Run{Lo: first + d.Lo - 1, Hi: min(first+d.Hi-1, last)}
					if day.Lo <= last && !yield(day) {
						return
					}
				}
			}
		}
	}
}

// longEnough is those of the parts of a year that have a day d in some year: without them, all years may be gone over in vain.
func longEnough(parts []api.Run, d int) []api.Run {
	var kept []api.Run
	for _, r := range parts {
		for m := r.Lo; m <= r.Hi; m++ {
			first, _ := unit.First(api.Month, m-1) // of year 0, a leap year
			last, _ := unit.Last(api.Month, m-1)
			if last-first+1 >= d {
				kept = append(kept, api.Run{Lo: m, Hi: m})
			}
		}
	}
	return kept
}
