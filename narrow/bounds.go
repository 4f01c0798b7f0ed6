package narrow

import (
	"cmp"
	"slices"

	"lustrum/api"
	"lustrum/leaf"
	"lustrum/runs"
	"lustrum/sets"
)

// bounds is the pairs that others may lie inside, without those that lie inside others themselves.
type bounds struct {
	intervals []api.Run // by rising first and last days
	days      []api.Run // the set of the pairs of one day that are in no interval
}

// boundsOf is the bounds that leaves give, true; false, if one of these has too many starts or ends.
func boundsOf(m []api.Leaf) (bounds, bool) {
	var intervals, days []api.Run
	for _, f := range m {
		starts, ends, ok := edges(f)
		switch {
		case !ok:
			return bounds{}, false
		case leaf.Empty(f):
		case f.Span:
			intervals = append(intervals, api.Run{Lo: least(starts), Hi: greatest(ends)})
		case f.U == api.Day:
			days = append(days, starts...)
		default:
			intervals = append(intervals, together(starts, ends)...)
		}
	}
	return bounds{intervals: longest(intervals), days: sets.Minus(days, runs.Make(intervals))}, true
}

// together is each first day of units longer than a day, which is a run of its own, with the last day of the same unit.
func together(starts, ends []api.Run) []api.Run {
	var l []api.Run
	for i, r := range starts {
		l = append(l, api.Run{Lo: r.Lo, Hi: ends[i].Hi})
	}
	return l
}

// longest is the intervals that lie inside no other one, by rising first days.
func longest(l []api.Run) []api.Run {
	slices.SortFunc(l, func(a, b api.Run) int { return cmp.Or(cmp.Compare(a.Lo, b.Lo), cmp.Compare(b.Hi, a.Hi)) })
	var kept []api.Run
	for _, r := range l {
		if len(kept) == 0 || r.Hi > kept[len(kept)-1].Hi {
			kept = append(kept, r)
		}
	}
	return kept
}
