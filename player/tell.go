package player

import (
	"strconv"
	"strings"

	"lustrum/allen"
	"lustrum/api"
	"lustrum/civil"
	"lustrum/env"
	"lustrum/parse"
	"lustrum/point"
)

const (
	dash        = "-"
	yearDigits  = 4
	monthDigits = 2
	dayDigits   = 2
)

// failed is how an error is told.
func failed(errno api.Errno) string {
	return "error " + strconv.Itoa(int(errno))
}

// parsed is the expression of a text, and ""; or what is told where there is none.
func parsed(text string) (api.Node, string) {
	n, place, errno := parse.Parse(text)
	if errno != api.OK {
		return n, failed(errno) + " at " + strconv.Itoa(place)
	}
	return n, ""
}

// joined is names as they are told.
func joined(names []string) string {
	if len(names) == 0 {
		return dash
	}
	return strings.Join(names, blank)
}

// relationNames is the names of the relations of a mask.
func relationNames(mask int) []string {
	var names []string
	for _, r := range allen.List(mask) {
		names = append(names, allen.Name(r))
	}
	return names
}

// dates is the dates of the earliest and of the latest day of families; or what is told where they have none.
func dates(l []api.Leaf) string {
	first, errno := env.Earliest(l)
	if errno != api.OK {
		return failed(errno)
	}
	last, errno := env.Latest(l)
	if errno != api.OK {
		return failed(errno)
	}
	return date(first) + blank + date(last)
}

// date is how a day's date is written.
func date(day int) string {
	y, m, d := civil.Date(day)
	return digits(y, yearDigits) + dash + digits(m, monthDigits) + dash + digits(d, dayDigits)
}

// digits is a number with so many digits.
func digits(n, count int) string {
	text := strconv.Itoa(n)
	return strings.Repeat("0", max(0, count-len(text))) + text
}

// dayOf is the number of the day that is written so, true; 0, false, if there is none.
func dayOf(text string) (int, bool) {
	p, ok := point.Read(text)
	if !ok || p.Kind != api.Day {
		return 0, false
	}
	y, noYear := strconv.Atoi(p.Y)
	m, noMonth := strconv.Atoi(p.M)
	d, noDay := strconv.Atoi(p.D)
	if noYear != nil || noMonth != nil || noDay != nil {
		return 0, false
	}
	return civil.Number(y, m, d)
}
