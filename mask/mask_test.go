package mask_test

import (
	"math"
	"slices"
	"strconv"
	"strings"
	"testing"

	"lustrum/api"
	"lustrum/mask"
)

// noMasks are texts and bytes that are no mask.
var noMasks = []string{"", "12345", "XXXXX", "x", "1x", "198d", " ", "1 ", " 1", "-1", "+1", "1.", "１", "é", "X\x00", "\xff", "\xff\xff", "1\xc3", "/", ":", "W", "Y", "19Y4", "0000\n", strings.Repeat("X", 1<<16)}

// all tells all masks that these signs make, of 1 to n bytes.
func all(signs string, n int) []string {
	l, from := []string{""}, 0
	for range n {
		to := len(l)
		for _, s := range l[from:to] {
			for _, c := range signs {
				l = append(l, s+string(c))
			}
		}
		from = to
	}
	return l[1:]
}

// matches tells by the document's words whether a number matches.
func matches(s string, n int) bool {
	t := strconv.Itoa(n)
	if n < 0 || len(t) > len(s) {
		return false
	}
	t = strings.Repeat("0", len(s)-len(t)) + t
	for i := range s {
		if s[i] != 'X' && s[i] != t[i] {
			return false
		}
	}
	return true
}

// numbers tells all that match, one by one.
func numbers(s string) []int {
	var l []int
	for n := 0; n < 10010; n++ {
		if matches(s, n) {
			l = append(l, n)
		}
	}
	return l
}

// asRuns tells rising numbers as a set.
func asRuns(l []int) []api.Run {
	var s []api.Run
	for _, n := range l {
		if last := len(s) - 1; last >= 0 && s[last].Hi == n-1 {
			s[last].Hi = n
		} else {
			s = append(s, api.Run{Lo: n, Hi: n})
		}
	}
	return s
}

// P6.1: each byte at each place.
func TestSane(t *testing.T) {
	for n := 1; n <= 6; n++ {
		for i := range n {
			for b := range 256 {
				s := []byte(strings.Repeat("X", n))
				s[i] = byte(b)
				want := n <= 4 && (b >= '0' && b <= '9' || b == 'X')
				if mask.Sane(string(s)) != want {
					t.Errorf("Sane(%q) is not %v", s, want)
				}
			}
		}
	}
	for _, s := range noMasks {
		if mask.Sane(s) {
			t.Errorf("Sane(%q)", s)
		}
	}
}

// P6.1 and P6.3: which numbers match, how many these are, and which is the only one.
func TestNumbersOfMasks(t *testing.T) {
	for _, s := range append(all("019X", 4), all("0123456789X", 2)...) {
		want := numbers(s)
		if got := mask.Set(s); !slices.Equal(got, asRuns(want)) {
			t.Errorf("Set(%q): %v, not %v", s, got, asRuns(want))
		}
		if n := mask.Count(s); n != len(want) {
			t.Errorf("Count(%q): %d, not %d", s, n, len(want))
		}
		only, ok := mask.Only(s)
		if ok != (len(want) == 1) || ok && only != want[0] || !ok && only != 0 {
			t.Errorf("Only(%q): %d, %v of %d", s, only, ok, len(want))
		}
	}
}

// P6.1: numbers with their neighbours, and far ones.
func TestMatch(t *testing.T) {
	for _, s := range all("09X", 4) {
		for n := -2; n <= 10010; n++ {
			if mask.Match(s, n) != matches(s, n) {
				t.Errorf("Match(%q, %d) is not %v", s, n, matches(s, n))
			}
		}
	}
	for _, s := range all("15X", 3) {
		for n := -1; n <= 1001; n++ {
			if mask.Match(s, n) != matches(s, n) {
				t.Errorf("Match(%q, %d) is not %v", s, n, matches(s, n))
			}
		}
		for _, n := range []int{math.MinInt, -1984, -10, -1, 10000, 100000, 1 << 32, 1<<32 + 1, math.MaxInt} {
			if mask.Match(s, n) {
				t.Errorf("Match(%q, %d)", s, n)
			}
		}
	}
	for _, s := range []string{"XXXX", "XXX"} {
		for _, n := range []int{math.MinInt, -1, 10000, 1 << 32, math.MaxInt} {
			if mask.Match(s, n) {
				t.Errorf("Match(%q, %d)", s, n)
			}
		}
	}
}

// P6.1 and P6.2: what is no mask.
func TestNoMask(t *testing.T) {
	for _, s := range noMasks {
		for _, n := range []int{0, 1, 4, 9, 19, 198, 1984, 12345, math.MaxInt, math.MinInt} {
			if mask.Match(s, n) {
				t.Errorf("Match(%q, %d)", s, n)
			}
		}
		only, ok := mask.Only(s)
		if len(mask.Set(s)) > 0 || mask.Count(s) != 0 || only != 0 || ok {
			t.Errorf("%q: %v, %d, %d, %v", s, mask.Set(s), mask.Count(s), only, ok)
		}
		for _, other := range append([]string{"X", "1", "XX", "XXXX"}, s) {
			if m, ok := mask.Meet(s, other); m != "" || ok {
				t.Errorf("Meet(%q, %q): %q", s, other, m)
			}
			if m, ok := mask.Meet(other, s); m != "" || ok {
				t.Errorf("Meet(%q, %q): %q", other, s, m)
			}
		}
	}
}

// P6.2: the mask of what matches both.
func TestMeet(t *testing.T) {
	masks := append(all("01X", 3), all("9X", 4)...)
	for _, a := range masks {
		for _, b := range masks {
			m, ok := mask.Meet(a, b)
			if len(a) != len(b) {
				if m != "" || ok {
					t.Errorf("Meet(%q, %q): %q, %v", a, b, m, ok)
				}
				continue
			}
			var both []int
			for _, n := range numbers(a) {
				if matches(b, n) {
					both = append(both, n)
				}
			}
			if ok != (len(both) > 0) || !ok && m != "" || ok && (len(m) != len(a) || !slices.Equal(numbers(m), both)) {
				t.Errorf("Meet(%q, %q): %q, %v", a, b, m, ok)
			}
		}
	}
}

// The document's examples, and some by hand.
func TestByHand(t *testing.T) {
	if got := mask.Set("19X4"); len(got) != 10 || got[0].Lo != 1904 || got[9].Hi != 1994 || got[3] != (api.Run{Lo: 1934, Hi: 1934}) {
		t.Error(got)
	}
	for _, x := range [][3]string{{"1X", "X2", "12"}, {"X2", "1X", "12"}, {"XX", "XX", "XX"}, {"19XX", "XX84", "1984"}, {"1984", "1985", ""}, {"1X", "2X", ""}, {"1", "XX", ""}, {"0X", "X0", "00"}} {
		if m, ok := mask.Meet(x[0], x[1]); m != x[2] || ok != (m != "") {
			t.Errorf("Meet%v: %q, %v", x, m, ok)
		}
	}
	for s, n := range map[string]int{"0": 0, "7": 7, "07": 7, "0000": 0, "9999": 9999, "0012": 12} {
		if only, ok := mask.Only(s); only != n || !ok {
			t.Errorf("Only(%q): %d, %v", s, only, ok)
		}
	}
	for s, n := range map[string]int{"X": 10, "XX": 100, "XXX": 1000, "XXXX": 10000, "1X": 10, "X1X1": 100, "1984": 1} {
		if c := mask.Count(s); c != n {
			t.Errorf("Count(%q): %d", s, c)
		}
	}
}
