package relate

import (
	"cmp"
	"slices"
	"sort"

	"lustrum/api"
	"lustrum/leaf"
	"lustrum/runs"
	"lustrum/sets"
)

// kinds is how many kinds of units there are.
const kinds = api.Century + 1

// family can tell whether one of its pairs lies in a box.
type family interface {
	within(b box) bool
}

// families is those of some leaves, sorted by how they are gone over.
type families struct {
	listed []listed
	loose  []loose
}

// listed is the pairs of units longer than a day, of one kind: both the starts and the ends rise.
type listed []api.Pair

// loose is too many pairs to be gone over: each start with each end that is not below it; or, of days, each start with itself.
type loose struct {
	ofDays       bool
	starts, ends []api.Run
}

// sorted is the families of leaves, true; false, if one of these has too many starts or ends.
func sorted(l []api.Leaf) (families, bool) {
	var days []api.Run
	var pairs [kinds][]api.Pair
	var all families
	for _, f := range l {
		starts, ok := leaf.Starts(f)
		ends, also := leaf.Ends(f)
		switch {
		case !ok || !also:
			return families{}, false
		case leaf.Empty(f):
		case f.Span:
			all.loose = append(all.loose, loose{starts: starts, ends: ends})
		case f.U == api.Day:
			days = append(days, starts...)
		default:
			pairs[f.U] = append(pairs[f.U], together(starts, ends)...)
		}
	}
	if len(days) > 0 {
		days = runs.Make(days)
		all.loose = append(all.loose, loose{ofDays: true, starts: days, ends: days})
	}
	for _, p := range pairs {
		slices.SortFunc(p, func(a, b api.Pair) int { return cmp.Compare(a.S, b.S) })
		all.listed = append(all.listed, slices.Compact(p))
	}
	return all, true
}

// together is each start with the end that is as far on in its set.
func together(starts, ends []api.Run) []api.Pair {
	var l []api.Pair
	first, last := numbers(starts), numbers(ends)
	for i, s := range first {
		l = append(l, api.Pair{S: s, T: last[i]})
	}
	return l
}

// numbers is those of a set, one by one.
func numbers(s []api.Run) []int {
	var l []int
	for _, r := range s {
		for n := r.Lo; n <= r.Hi; n++ {
			l = append(l, n)
		}
	}
	return l
}

// within: the first pair that is not below the box lies in it, if one does.
func (l listed) within(b box) bool {
	i := sort.Search(len(l), func(i int) bool { return l[i].S >= b.start.Lo && l[i].T >= b.end.Lo })
	return i < len(l) && l[i].S <= b.start.Hi && l[i].T <= b.end.Hi
}

// within: the least start in the box and the greatest end in it are a pair, if there is one.
func (f loose) within(b box) bool {
	if f.ofDays {
		day, ok := next(f.starts, max(b.start.Lo, b.end.Lo))
		return ok && day <= min(b.start.Hi, b.end.Hi)
	}
	s, ok := next(f.starts, b.start.Lo)
	t, also := previous(f.ends, b.end.Hi)
	return ok && also && s <= b.start.Hi && t >= b.end.Lo && s <= t
}

// examples is pairs of f that are enough to find each relation in which one of its pairs stands to one of g's: of each edge that a relation asks for, the least and the greatest day that it leaves.
func (f loose) examples(g loose) []api.Pair {
	sameStarts, sameEnds := sets.Meet(f.starts, g.starts), sets.Meet(f.ends, g.ends)
	single := edges(sets.Meet(sameStarts, sameEnds))
	starts := slices.Concat(single, edges(
		f.starts,
		sameStarts,
		sets.Clip(f.starts, least(g.starts)+1, api.MaxDay),
		sets.Meet(f.starts, sets.Shift(g.ends, 1)),
	))
	ends := slices.Concat(single, edges(
		f.ends,
		sameEnds,
		sets.Clip(f.ends, 0, greatest(g.ends)-1),
		sets.Meet(f.ends, sets.Shift(g.starts, -1)),
	))
	if f.ofDays {
		return singleDays(append(starts, ends...))
	}
	return pairsOf(starts, ends)
}

// singleDays is the pair of each day with itself.
func singleDays(days []int) []api.Pair {
	var l []api.Pair
	for _, day := range days {
		l = append(l, api.Pair{S: day, T: day})
	}
	return l
}

// pairsOf is each start with each end that is not below it.
func pairsOf(starts, ends []int) []api.Pair {
	var l []api.Pair
	for _, s := range starts {
		for _, t := range ends {
			if s <= t {
				l = append(l, api.Pair{S: s, T: t})
			}
		}
	}
	return l
}

// edges is the least and the greatest numbers of those sets that have some.
func edges(l ...[]api.Run) []int {
	var days []int
	for _, s := range l {
		if len(s) > 0 {
			days = append(days, least(s), greatest(s))
		}
	}
	return days
}

// least and greatest are the ends of a set that is not empty.
func least(s []api.Run) int    { return s[0].Lo }
func greatest(s []api.Run) int { return s[len(s)-1].Hi }

// next is what runs.Next is, of what is known to be a set: it is asked too often to look at all of it each time.
func next(s []api.Run, n int) (int, bool) {
	i := sort.Search(len(s), func(i int) bool { return s[i].Hi >= n })
	if i == len(s) {
		return 0, false
	}
	return max(n, s[i].Lo), true
}

// previous is what runs.Prev is, likewise.
func previous(s []api.Run, n int) (int, bool) {
	i := sort.Search(len(s), func(i int) bool { return s[i].Lo > n })
	if i == 0 {
		return 0, false
	}
	return min(n, s[i-1].Hi), true
}
