package lex_test

import (
	"math"
	"math/rand"
	"slices"
	"strings"
	"testing"

	"lustrum/api"
	"lustrum/lex"
)

// tok is a token.
func tok(kind, at int, s string) api.Tok {
	return api.Tok{Kind: kind, At: at, S: s}
}

// check holds what All tells against what is wanted.
func check(t *testing.T, s string, want []api.Tok, place int, errno api.Errno) {
	t.Helper()
	l, at, e := lex.All(s)
	if !slices.Equal(l, want) || at != place || e != errno {
		if len(s) > 60 {
			s = s[:60]
		}
		t.Errorf("All(%q): %v, %d, %d, not %v, %d, %d", s, l, at, e, want, place, errno)
	}
}

// The kinds' numbers are those of the document.
func TestKinds(t *testing.T) {
	got := []int{lex.Word, lex.Slash, lex.Dots, lex.Star, lex.Open, lex.Shut, lex.Comma, lex.Ask, lex.Tilde, lex.End}
	if !slices.Equal(got, []int{0, 1, 2, 3, 4, 5, 6, 7, 8, 9}) {
		t.Error(got)
	}
}

// P9.1: by hand.
func TestAllByHand(t *testing.T) {
	check(t, "1984 / ..", []api.Tok{tok(0, 0, "1984"), tok(1, 5, ""), tok(2, 7, ""), tok(9, 9, "")}, 9, api.OK)
	check(t, "", []api.Tok{tok(9, 0, "")}, 0, api.OK)
	check(t, "   ", []api.Tok{tok(9, 3, "")}, 3, api.OK)
	check(t, "/..*[],?~", []api.Tok{tok(1, 0, ""), tok(2, 1, ""), tok(3, 3, ""), tok(4, 4, ""), tok(5, 5, ""), tok(6, 6, ""), tok(7, 7, ""), tok(8, 8, ""), tok(9, 9, "")}, 9, api.OK)
	check(t, "0123456789X-sdc", []api.Tok{tok(0, 0, "0123456789X-sdc"), tok(9, 15, "")}, 15, api.OK)
	check(t, "19 84", []api.Tok{tok(0, 0, "19"), tok(0, 3, "84"), tok(9, 5, "")}, 5, api.OK)
	check(t, "[1984?~, 198d/..]", []api.Tok{tok(4, 0, ""), tok(0, 1, "1984"), tok(7, 5, ""), tok(8, 6, ""), tok(6, 7, ""), tok(0, 9, "198d"), tok(1, 13, ""), tok(2, 14, ""), tok(5, 16, ""), tok(9, 17, "")}, 17, api.OK)
	check(t, "  ....  ", []api.Tok{tok(2, 2, ""), tok(2, 4, ""), tok(9, 8, "")}, 8, api.OK)
	check(t, "1..2", []api.Tok{tok(0, 0, "1"), tok(2, 1, ""), tok(0, 3, "2"), tok(9, 4, "")}, 4, api.OK)
	check(t, "-", []api.Tok{tok(0, 0, "-"), tok(9, 1, "")}, 1, api.OK)
}

// P9.1: what no token begins with.
func TestNoToken(t *testing.T) {
	check(t, ".", nil, 0, api.ErrSign)
	check(t, "...", nil, 2, api.ErrSign)
	check(t, ". .", nil, 0, api.ErrSign)
	check(t, "1984 .", nil, 5, api.ErrSign)
	check(t, "1984.05", nil, 4, api.ErrSign)
	check(t, "1984/.1", nil, 5, api.ErrSign)
	check(t, "19x4", nil, 2, api.ErrSign)
	check(t, "\t1984", nil, 0, api.ErrSign)
	check(t, "1984\n", nil, 4, api.ErrSign)
	check(t, "1984 é", nil, 5, api.ErrSign)
	check(t, "\xff", nil, 0, api.ErrSign)
	check(t, "1984\u00a0", nil, 4, api.ErrSign)
	check(t, "@.", nil, 0, api.ErrSign)
}

// P9.1: each byte, alone, and behind a word.
func TestEachByte(t *testing.T) {
	signs := map[byte]int{'/': 1, '*': 3, '[': 4, ']': 5, ',': 6, '?': 7, '~': 8}
	for b := range 256 {
		c := byte(b)
		s := string([]byte{c})
		switch {
		case c == ' ':
			check(t, s, []api.Tok{tok(9, 1, "")}, 1, api.OK)
		case strings.Contains("0123456789X-sdc", s):
			check(t, s, []api.Tok{tok(0, 0, s), tok(9, 1, "")}, 1, api.OK)
			check(t, "1 "+s, []api.Tok{tok(0, 0, "1"), tok(0, 2, s), tok(9, 3, "")}, 3, api.OK)
		case signs[c] > 0:
			check(t, s, []api.Tok{tok(signs[c], 0, ""), tok(9, 1, "")}, 1, api.OK)
			check(t, "1"+s+s, []api.Tok{tok(0, 0, "1"), tok(signs[c], 1, ""), tok(signs[c], 2, ""), tok(9, 3, "")}, 3, api.OK)
		default:
			check(t, s, nil, 0, api.ErrSign)
			check(t, "[1"+s, nil, 2, api.ErrSign)
		}
	}
}

// P9.1: 2000 bytes, and one more, whatever it is.
func TestLong(t *testing.T) {
	word := strings.Repeat("1", 2000)
	check(t, word, []api.Tok{tok(0, 0, word), tok(9, 2000, "")}, 2000, api.OK)
	check(t, word[:1999], []api.Tok{tok(0, 0, word[:1999]), tok(9, 1999, "")}, 1999, api.OK)
	check(t, word+"1", nil, 2000, api.ErrLong)
	check(t, word+" ", nil, 2000, api.ErrLong)
	check(t, strings.Repeat(" ", 2000), []api.Tok{tok(9, 2000, "")}, 2000, api.OK)
	check(t, strings.Repeat("@", 2000), nil, 0, api.ErrSign)
	check(t, strings.Repeat("@", 2001), nil, 2000, api.ErrLong)
	check(t, word[:1999]+".", nil, 1999, api.ErrSign)
	check(t, strings.Repeat(".", 2000)+".", nil, 2000, api.ErrLong)
	check(t, strings.Repeat("\x00", 1<<20), nil, 2000, api.ErrLong)
	if l, at, e := lex.All(strings.Repeat("..", 1000)); len(l) != 1001 || at != 2000 || e != api.OK || l[1000] != tok(9, 2000, "") {
		t.Errorf("1000 times two points: %d, %d, %d", len(l), at, e)
	}
}

// P9.2: of each token its bytes, blanks between words that follow each other.
func TestShow(t *testing.T) {
	for _, x := range []struct {
		l    []api.Tok
		want string
	}{
		{nil, ""},
		{[]api.Tok{}, ""},
		{[]api.Tok{tok(0, 0, "1984"), tok(1, 5, ""), tok(2, 7, ""), tok(9, 9, "")}, "1984/.."},
		{[]api.Tok{tok(0, 0, "1"), tok(0, 0, "2"), tok(0, 0, "3")}, "1 2 3"},
		{[]api.Tok{tok(0, 0, "1"), tok(9, 0, ""), tok(0, 0, "2")}, "12"},
		{[]api.Tok{tok(0, 0, "1"), tok(17, 0, "x"), tok(0, 0, "2")}, "12"},
		{[]api.Tok{tok(0, 0, ""), tok(0, 0, ""), tok(0, 0, "")}, "  "},
		{[]api.Tok{tok(0, -7, "é\xff ")}, "é\xff "},
		{[]api.Tok{tok(1, 0, "9"), tok(2, 0, "9"), tok(3, 0, "9"), tok(4, 0, "9"), tok(5, 0, "9"), tok(6, 0, "9"), tok(7, 0, "9"), tok(8, 0, "9"), tok(9, 0, "9")}, "/..*[],?~"},
		{[]api.Tok{tok(-1, 0, "a"), tok(10, 0, "b"), tok(math.MinInt, 0, "c"), tok(math.MaxInt, math.MaxInt, "d")}, ""},
		{[]api.Tok{tok(2, 0, ""), tok(2, 0, ""), tok(0, 0, "1"), tok(7, 0, ""), tok(0, 0, "2"), tok(0, 0, "3")}, "....1?2 3"},
	} {
		before := slices.Clone(x.l)
		if s := lex.Show(x.l); s != x.want {
			t.Errorf("Show(%v): %q, not %q", x.l, s, x.want)
		}
		if !slices.Equal(x.l, before) {
			t.Errorf("%v was changed", before)
		}
	}
}

// P9.3: tokens that were read, shown and read again are the same, but for their places.
func TestShownIsReadAgain(t *testing.T) {
	r := rand.New(rand.NewSource(9))
	parts := []string{"1984", "X", "-", "s1", "d", "/", "..", "*", "[", "]", ",", "?", "~", " ", "   "}
	for range 5000 {
		var text strings.Builder
		for range r.Intn(30) {
			text.WriteString(parts[r.Intn(len(parts))])
		}
		l, n, errno := lex.All(text.String())
		if errno != api.OK || n != text.Len() {
			t.Fatalf("All(%q): %d, %d", text.String(), n, errno)
		}
		again, _, errno := lex.All(lex.Show(l))
		same := slices.EqualFunc(l, again, func(a, b api.Tok) bool { return a.Kind == b.Kind && a.S == b.S })
		if !same || errno != api.OK {
			t.Errorf("%q is shown as %q", text.String(), lex.Show(l))
		}
	}
}

// P9.1 and R1: bytes by chance have tokens, or a place where there is none.
func TestBytesByChance(t *testing.T) {
	r := rand.New(rand.NewSource(91))
	for range 5000 {
		b := make([]byte, r.Intn(40))
		for i := range b {
			b[i] = "0189X-sdc/.*[],?~ .. \x00aé"[r.Intn(24)]
		}
		s := string(b)
		l, at, errno := lex.All(s)
		switch errno {
		case api.OK:
			if at != len(s) || l[len(l)-1] != tok(9, len(s), "") {
				t.Errorf("All(%q): %v, %d", s, l, at)
			}
		case api.ErrSign:
			if _, _, before := lex.All(s[:at]); before != api.OK || len(l) > 0 || strings.IndexByte("0189X-sdc/*[],?~ ", s[at]) >= 0 {
				t.Errorf("All(%q): %v, %d, %d", s, l, at, errno)
			}
		default:
			t.Errorf("All(%q): %d", s, errno)
		}
	}
}
