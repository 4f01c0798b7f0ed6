package leaf

import (
	"lustrum/api"
	"lustrum/sets"
	"lustrum/unit"
)

// family is what a leaf has pairs of: units, or a span.
type family interface {
	isEmpty() bool
}

// units has a pair of each unit of a kind whose number is there.
type units struct {
	kind    int
	numbers []api.Run
}

// span has a pair of each start with each end that is not below it; without starts and ends that are in no pair.
type span struct {
	starts, ends []api.Run
}

func (g units) isEmpty() bool { return len(g.numbers) == 0 }
func (g span) isEmpty() bool  { return len(g.starts) == 0 }

// pair is a unit's first and last day.
func (g units) pair(i int) api.Pair {
	first, _ := unit.First(g.kind, i)
	last, _ := unit.Last(g.kind, i)
	return api.Pair{S: first, T: last}
}

// familyOf is the family of what a leaf counts as.
func familyOf(f api.Leaf) family {
	if !Sane(f) {
		return units{}
	}
	if !f.Span {
		return units{kind: f.U, numbers: f.A}
	}
	if len(f.A) == 0 || len(f.B) == 0 {
		return span{}
	}
	return span{
		starts: sets.Clip(f.A, 0, greatest(f.B)),
		ends:   sets.Clip(f.B, least(f.A), api.MaxDay),
	}
}
