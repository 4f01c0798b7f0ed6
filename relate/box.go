package relate

import (
	"lustrum/allen"
	"lustrum/api"
)

// box is where the start and the end of a pair are looked for.
type box struct {
	start, end api.Run
}

// interval is a pair; its methods tell, for each relation, in which box those pairs are to which it stands so.
type interval api.Pair

// boxes is how each relation is asked for, by its number.
func boxes() []func(interval) box {
	return []func(interval) box{
		allen.Before:       interval.before,
		allen.Meets:        interval.meets,
		allen.Overlaps:     interval.overlaps,
		allen.Starts:       interval.starts,
		allen.During:       interval.during,
		allen.Finishes:     interval.finishes,
		allen.Equals:       interval.equals,
		allen.FinishedBy:   interval.finishedBy,
		allen.Contains:     interval.contains,
		allen.StartedBy:    interval.startedBy,
		allen.OverlappedBy: interval.overlappedBy,
		allen.MetBy:        interval.metBy,
		allen.After:        interval.after,
	}
}

func (p interval) before() box {
	return box{start: from(p.T + 2), end: anyDay()}
}

func (p interval) meets() box {
	return box{start: just(p.T + 1), end: anyDay()}
}

func (p interval) overlaps() box {
	return box{start: api.Run{Lo: p.S + 1, Hi: p.T}, end: from(p.T + 1)}
}

func (p interval) starts() box {
	return box{start: just(p.S), end: from(p.T + 1)}
}

func (p interval) during() box {
	return box{start: upTo(p.S - 1), end: from(p.T + 1)}
}

func (p interval) finishes() box {
	return box{start: upTo(p.S - 1), end: just(p.T)}
}

func (p interval) equals() box {
	return box{start: just(p.S), end: just(p.T)}
}

func (p interval) finishedBy() box {
	return box{start: from(p.S + 1), end: just(p.T)}
}

func (p interval) contains() box {
	return box{start: from(p.S + 1), end: upTo(p.T - 1)}
}

func (p interval) startedBy() box {
	return box{start: just(p.S), end: upTo(p.T - 1)}
}

func (p interval) overlappedBy() box {
	return box{start: upTo(p.S - 1), end: api.Run{Lo: p.S, Hi: p.T - 1}}
}

func (p interval) metBy() box {
	return box{start: anyDay(), end: just(p.S - 1)}
}

func (p interval) after() box {
	return box{start: anyDay(), end: upTo(p.S - 2)}
}

func just(day int) api.Run { return api.Run{Lo: day, Hi: day} }
func from(day int) api.Run { return api.Run{Lo: day, Hi: api.MaxDay} }
func upTo(day int) api.Run { return api.Run{Lo: 0, Hi: day} }
func anyDay() api.Run      { return api.Run{Lo: 0, Hi: api.MaxDay} }
