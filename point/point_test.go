package point_test

import (
	"math"
	"math/rand"
	"slices"
	"strconv"
	"strings"
	"testing"

	"lustrum/api"
	"lustrum/civil"
	"lustrum/point"
	"lustrum/runs"
	"lustrum/unit"
)

var kinds = []int{api.Day, api.Month, api.Season, api.Year, api.Decade, api.Century}

// matches tells whether a number, written with as many digits as the mask has bytes, has its digits.
func matches(s string, n int) bool {
	t := strconv.Itoa(n)
	if n < 0 || len(t) > len(s) {
		return false
	}
	t = strings.Repeat("0", len(s)-len(t)) + t
	for i := range s {
		if s[i] != 'X' && s[i] != t[i] {
			return false
		}
	}
	return true
}

// some tells the numbers from lo to hi that match; all, if the mask is "".
func some(s string, lo, hi int) []int {
	var l []int
	for n := lo; n <= hi; n++ {
		if matches(s, n) {
			l = append(l, n)
		}
	}
	return l
}

// units tells the numbers of a point's units by the document's words.
func units(p api.Point) []int {
	var l []int
	switch p.Kind {
	case api.Day:
		months, days := some(p.M, 1, 12), some(p.D, 1, 31)
		for _, y := range some(p.Y, 0, 9999) {
			for _, m := range months {
				for _, d := range days {
					if n, ok := civil.Number(y, m, d); ok {
						l = append(l, n)
					}
				}
			}
		}
	case api.Month:
		for _, y := range some(p.Y, 0, 9999) {
			for _, m := range some(p.M, 1, 12) {
				l = append(l, 12*y+m-1)
			}
		}
	case api.Season:
		for _, y := range some(p.Y, 0, 9999) {
			for _, m := range some(p.M, 1, 4) {
				l = append(l, 4*y+m-1)
			}
		}
	default:
		l = some(p.Y, 0, 9999)
	}
	return l
}

// wide: have the first days of rising units more than 400 runs?
func wide(kind int, l []int) bool {
	count, behind := 0, -1
	for _, i := range l {
		first, _ := unit.First(kind, i)
		if first != behind {
			count++
		}
		behind = first + 1
	}
	return count > api.MaxRuns
}

// read tells the point of a text that is one.
func read(t *testing.T, s string) api.Point {
	t.Helper()
	p, ok := point.Read(s)
	if !ok {
		t.Fatalf("%v is a point", s)
	}
	return p
}

// sane tells by the document's words whether it is a point.
func sane(p api.Point) bool {
	isMask := func(s string, n int) bool {
		return len(s) == n && strings.Trim(s, "0123456789X") == "" && (n > 0 || s == "")
	}
	lengths := [][3]int{{4, 2, 2}, {4, 2, 0}, {4, 1, 0}, {4, 0, 0}, {3, 0, 0}, {2, 0, 0}}
	if p.Kind < 0 || p.Kind > 5 {
		return false
	}
	n := lengths[p.Kind]
	most := 12
	if p.Kind == api.Season {
		most = 4
	}
	return isMask(p.Y, n[0]) && isMask(p.M, n[1]) && isMask(p.D, n[2]) &&
		(n[1] == 0 || len(some(p.M, 1, most)) > 0) && (n[2] == 0 || len(some(p.D, 1, 31)) > 0)
}

// signs make the masks of the tests.
const signs = "0123456789X"

// masks tells all of n bytes.
func masks(n int) []string {
	l := []string{""}
	for range n {
		var longer []string
		for _, s := range l {
			for _, c := range signs {
				longer = append(longer, s+string(c))
			}
		}
		l = longer
	}
	return l
}

// P8.1: which masks make a point, of each kind.
func TestSane(t *testing.T) {
	months, days := slices.Concat(masks(0), masks(1), masks(2), []string{"123", "XXX", "x1", "1 ", "-1", "1d"}), slices.Concat(masks(0), masks(1), masks(2), []string{"123", "XXX", "3x", " 1", "\xff\xff"})
	for kind := -2; kind <= 8; kind++ {
		for _, y := range []string{"", "1", "19", "X9", "198", "19X", "1984", "19X4", "XXXX", "19841", "198d", "19-4", "198x", "198", "١٩", "19\n4"} {
			for _, m := range months {
				for _, d := range []string{"", "01", "X", "3X"} {
					checkSane(t, api.Point{Kind: kind, Y: y, M: m, D: d})
				}
			}
		}
		for _, d := range days {
			for _, m := range []string{"", "02", "X", "1X", "13"} {
				checkSane(t, api.Point{Kind: kind, Y: "1984", M: m, D: d})
			}
		}
	}
	for _, kind := range []int{math.MinInt, math.MaxInt, -1, 6} {
		for _, p := range []api.Point{{}, {Y: "1984"}, {Y: "198"}, {Y: "1984", M: "01", D: "01"}} {
			p.Kind = kind
			checkSane(t, p)
		}
	}
}

// checkSane holds Sane, and what is told of what is no point, against the words.
func checkSane(t *testing.T, p api.Point) {
	t.Helper()
	if point.Sane(p) != sane(p) {
		t.Errorf("Sane(%v) is not %v", p, sane(p))
	}
	if sane(p) {
		return
	}
	if s := point.Text(p); s != "" {
		t.Errorf("Text(%v): %v", p, s)
	}
	if s, errno := point.Set(p); len(s) > 0 || errno != api.ErrPoint {
		t.Errorf("Set(%v): %v, %d", p, s, errno)
	}
	if s, errno := point.Near(p); len(s) > 0 || errno != api.ErrPoint {
		t.Errorf("Near(%v): %v, %d", p, s, errno)
	}
}

// texts are points, as they are written.
var texts = map[string]api.Point{
	"1984":       {Kind: api.Year, Y: "1984"},
	"19X4":       {Kind: api.Year, Y: "19X4"},
	"XXXX":       {Kind: api.Year, Y: "XXXX"},
	"0000":       {Kind: api.Year, Y: "0000"},
	"1984-05":    {Kind: api.Month, Y: "1984", M: "05"},
	"1984-X2":    {Kind: api.Month, Y: "1984", M: "X2"},
	"1X84-1X":    {Kind: api.Month, Y: "1X84", M: "1X"},
	"1984-05-06": {Kind: api.Day, Y: "1984", M: "05", D: "06"},
	"2023-02-3X": {Kind: api.Day, Y: "2023", M: "02", D: "3X"},
	"2023-02-31": {Kind: api.Day, Y: "2023", M: "02", D: "31"},
	"XXXX-XX-XX": {Kind: api.Day, Y: "XXXX", M: "XX", D: "XX"},
	"1984s4":     {Kind: api.Season, Y: "1984", M: "4"},
	"XXXXsX":     {Kind: api.Season, Y: "XXXX", M: "X"},
	"198d":       {Kind: api.Decade, Y: "198"},
	"XXXd":       {Kind: api.Decade, Y: "XXX"},
	"19c":        {Kind: api.Century, Y: "19"},
	"X9c":        {Kind: api.Century, Y: "X9"},
}

// P8.1 and P8.4: what is written, and read again.
func TestTextAndRead(t *testing.T) {
	for s, p := range texts {
		if got := point.Text(p); got != s {
			t.Errorf("Text(%v): %v, not %v", p, got, s)
		}
		if got, ok := point.Read(s); got != p || !ok {
			t.Errorf("Read(%v): %v, %v, not %v", s, got, ok, p)
		}
	}
}

// P8.1: texts of no point; among them points with a byte more, less, or another one.
func TestReadOfNoPoint(t *testing.T) {
	none := []string{"", " ", "19", "198", "19841", "1984-5", "1984-", "1984-00", "1984-13", "1984-2X", "1984-05-", "1984-05-1", "1984-05-00", "1984-05-32", "1984-05-4X", "1984-13-01", "1984-00-01",
		"1984s", "1984s0", "1984s5", "1984s01", "1984S1", "1984sX1", "984s1", "198D", "19C", "1984d", "98d", "d", "c", "s1", "1984c", "198c", "1c", "19d", "1984-05-06-07", "1984/05", "1984-05/06", "1984s05", "1984-s1",
		"-1984", "+984", " 1984", "1984 ", "１９８４", "1984~", "x984", "19x4", "\x00", "\xff\xff\xff\xff", strings.Repeat("1", 5000), strings.Repeat("X", 1<<16)}
	for _, s := range none {
		if p, ok := point.Read(s); ok || p != (api.Point{}) {
			t.Errorf("Read(%v): %v", s, p)
		}
	}
	var l []string
	for s := range texts {
		l = append(l, s+"0", s+"X", s+" ", " "+s, s[:len(s)-1], s[1:])
		for i := range s {
			for _, b := range "-sdcx/ \x00" {
				if other := s[:i] + string(b) + s[i+1:]; other != s {
					l = append(l, other)
				}
			}
		}
	}
	for _, s := range l {
		p, ok := point.Read(s)
		if !ok && p != (api.Point{}) {
			t.Errorf("Read(%v): %v, false", s, p)
		}
		if ok && (!sane(p) || point.Text(p) != s) {
			t.Errorf("Read(%v): %v, which is written %v", s, p, point.Text(p))
		}
	}
}

// P8.4: each point of some masks is read again.
func TestReadAgain(t *testing.T) {
	for kind, n := range [][3]int{{4, 2, 2}, {4, 2, 0}, {4, 1, 0}, {4, 0, 0}, {3, 0, 0}, {2, 0, 0}} {
		for _, y := range []string{"1984", "XXXX", "0X0X", "9999"} {
			for _, m := range masks(n[1]) {
				for _, d := range masks(n[2]) {
					p := api.Point{Kind: kind, Y: y[:n[0]], M: m, D: d}
					s := point.Text(p)
					if sane(p) != (s != "") {
						t.Fatalf("Text(%v): %v", p, s)
					}
					if got, ok := point.Read(s); sane(p) && (got != p || !ok) {
						t.Fatalf("Read(%v): %v, %v, not %v", s, got, ok, p)
					}
				}
			}
		}
	}
}

// checkSet holds Set and Near of a point against its units, one by one.
func checkSet(t *testing.T, p api.Point) {
	t.Helper()
	l := units(p)
	set, errno := point.Set(p)
	if wide(p.Kind, l) {
		if errno != api.ErrWide || len(set) > 0 {
			t.Errorf("Set(%v): %d runs, %d, not wide", p, len(set), errno)
		}
		if near, errno := point.Near(p); errno != api.ErrWide || len(near) > 0 {
			t.Errorf("Near(%v): %d runs, %d, not wide", p, len(near), errno)
		}
		return
	}
	if want := runs.Of(l); errno != api.OK || !slices.Equal(set, want) {
		t.Errorf("Set(%v): %v, %d, not %v", p, set, errno, want)
	}
	r := []int{3, 1, 1, 2, 1, 1}[p.Kind]
	var beside []int
	for _, i := range l {
		for j := max(0, i-r); j <= min(unit.Count(p.Kind)-1, i+r); j++ {
			if len(beside) == 0 || beside[len(beside)-1] < j {
				beside = append(beside, j)
			}
		}
	}
	near, errno := point.Near(p)
	if wide(p.Kind, beside) {
		if errno != api.ErrWide || len(near) > 0 {
			t.Errorf("Near(%v): %d runs, %d, not wide", p, len(near), errno)
		}
	} else if want := runs.Of(beside); errno != api.OK || !slices.Equal(near, want) {
		t.Errorf("Near(%v): %v, %d, not %v", p, near, errno, want)
	}
}

// P8.2 and P8.3: units of points by chance.
func TestSetAndNear(t *testing.T) {
	r := rand.New(rand.NewSource(8))
	sign := func() string {
		return string([]byte{"0123456789XXXXXXXX"[r.Intn(18)]})
	}
	for range 1200 {
		kind := kinds[r.Intn(len(kinds))]
		n := [][3]int{{4, 2, 2}, {4, 2, 0}, {4, 1, 0}, {4, 0, 0}, {3, 0, 0}, {2, 0, 0}}[kind]
		y, m, d := "", "", ""
		for range n[0] {
			y += sign()
		}
		for range n[1] {
			m += sign()
		}
		for range n[2] {
			d += sign()
		}
		if p := (api.Point{Kind: kind, Y: y, M: m, D: d}); sane(p) && (kind != api.Day || strings.Count(y, "X") < 4) {
			checkSet(t, p)
		}
	}
}

// P8.2 and P8.3: the edges of what is too wide, of months that have no such day, and of all units.
func TestSetAndNearAtTheEdges(t *testing.T) {
	for _, s := range []string{
		"0000", "0001", "9998", "9999", "XXXX", "1XXX", "19XX", "X9XX", "X99X", "XX99", "1X9X", "999d", "000d", "XXXd", "XX9d", "X9Xd", "XXc", "X9c", "00c", "99c",
		"0000-01", "9999-12", "XXXX-01", "19XX-05", "19XX-0X", "19XX-1X", "19XX-XX", "198X-XX", "1XX4-05", "19X4-0X",
		"0000s1", "9999s4", "19XXsX", "19XXs4", "198XsX", "XXXXs1", "1XXXs1",
		"0000-01-01", "0000-01-03", "9999-12-31", "9999-12-28", "XXXX-XX-XX", "1XXX-XX-XX", "19X4-XX-XX", "X9XX-XX-XX", "XXX9-XX-XX", "XX99-XX-XX", "XXXX-0X-XX", "19XX-0X-XX", "1XXX-02-XX", "19XX-02-XX",
		"XXXX-02-29", "1XXX-02-29", "2XXX-02-29", "19XX-02-29", "XXXX-02-30", "XXXX-02-31", "XXXX-02-3X", "1XXX-02-3X", "XXXX-04-31", "XXXX-1X-31", "XXXX-XX-31", "19X4-XX-31", "XXXX-12-31", "1XX4-12-31", "1X84-XX-X1", "1984-XX-X1", "1984-XX-XX", "1984-02-XX", "1985-02-29",
		"19X4-02-3X", "2023-02-3X", "1984-XX-3X", "1984-XX-30", "198X-XX-01", "19XX-XX-01", "1984-XX-0X", "1984-02-2X", "XXXX-01-01", "19XX-01-X1", "19XX-12-X1",
		"1XX0-0X-15", "1XX0-01-15", "1XX0-01-1X", "X000-XX-01", "X0X0-XX-1X", "X0X4-0X-XX",
	} {
		checkSet(t, read(t, s))
	}
}

// P8.2: just 400 runs, and just 401, made of nine months a year and other ones.
func TestSetOfManyRuns(t *testing.T) {
	for s, want := range map[string]int{"19XX-1X-01": 300, "1X8X-1X-01": 300, "19XX-0X-01": 0, "1XXX-02-29": 242, "X9XX-02-29": 240, "X0XX-02-29": 245, "XX00-02-29": 25, "19XX-01-X1": 400, "19XX-12-X1": 400, "19XX-X1-X1": 0} {
		set, errno := point.Set(read(t, s))
		if (errno == api.OK) != (want > 0) || len(set) != want || want == 0 && errno != api.ErrWide {
			t.Errorf("Set of %v: %d runs, %d, not %d", s, len(set), errno, want)
		}
	}
}

// P8.3
func TestRadius(t *testing.T) {
	for kind, want := range []int{3, 1, 1, 2, 1, 1} {
		if n := point.Radius(kind); n != want {
			t.Errorf("Radius(%d): %d, not %d", kind, n, want)
		}
	}
	for _, kind := range []int{-1, 6, 7, math.MinInt, math.MaxInt} {
		if n := point.Radius(kind); n != 0 {
			t.Errorf("Radius(%d): %d, not 0", kind, n)
		}
	}
}

// The document's examples.
func TestExamples(t *testing.T) {
	if set, errno := point.Set(read(t, "19X4")); runs.Count(set) != 10 || errno != api.OK {
		t.Error(set, errno)
	}
	if set, errno := point.Set(read(t, "1984s4")); !slices.Equal(set, []api.Run{{Lo: 7939, Hi: 7939}}) || errno != api.OK {
		t.Error(set, errno)
	}
	if set, errno := point.Set(read(t, "2023-02-3X")); len(set) > 0 || errno != api.OK {
		t.Error(set, errno)
	}
	if set, errno := point.Near(read(t, "2023-02-3X")); len(set) > 0 || errno != api.OK {
		t.Error(set, errno)
	}
	if set, errno := point.Set(read(t, "XXXX")); len(set) > 0 || errno != api.ErrWide {
		t.Error(set, errno)
	}
	if set, errno := point.Near(read(t, "1984")); !slices.Equal(set, []api.Run{{Lo: 1982, Hi: 1986}}) || errno != api.OK {
		t.Error(set, errno)
	}
}
