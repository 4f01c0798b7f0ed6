package parse_test

import (
	"math/rand"
	"regexp"
	"slices"
	"strings"
	"testing"

	"lustrum/api"
	"lustrum/lex"
	"lustrum/parse"
	"lustrum/point"
	"lustrum/print"
	"lustrum/tree"
)

// of is the point of a text, with marks behind it: "1984?~".
func of(s string) api.Node {
	p, _ := point.Read(strings.TrimRight(s, "?~"))
	return api.Node{P: p, Ask: strings.Contains(s, "?"), Tilde: strings.Contains(s, "~")}
}

func list(l ...api.Node) api.Node { return api.Node{Kind: 2, L: l} }
func span(l ...api.Node) api.Node { return api.Node{Kind: 1, L: l} }

var open, unknown = api.Node{Kind: 3}, api.Node{Kind: 4}

// checkParsed asks for an expression.
func checkParsed(t *testing.T, s string, want api.Node) {
	t.Helper()
	n, place, errno := parse.Parse(s)
	if errno != api.OK || place != len(s) || !tree.Same(n, want) {
		t.Errorf("Parse(%q): %q, %d, %d, not %q", s, print.Text(n), place, errno, print.Text(want))
	}
}

// checkError asks for an error at a place.
func checkError(t *testing.T, s string, place int, want api.Errno) {
	t.Helper()
	n, at, errno := parse.Parse(s)
	if errno != want || at != place || !tree.Same(n, api.Node{}) {
		t.Errorf("Parse(%q): %q, %d, %d, not error %d at %d", s, print.Text(n), at, errno, want, place)
	}
}

// P13.1: expressions.
func TestExpressions(t *testing.T) {
	checkParsed(t, "[1984~?, ../19X4]", list(of("1984?~"), span(open, of("19X4"))))
	checkParsed(t, "1984", of("1984"))
	checkParsed(t, "  1984  ", of("1984"))
	checkParsed(t, "1984 ? ~", of("1984?~"))
	checkParsed(t, "1984~?", of("1984?~"))
	checkParsed(t, "1984?", of("1984?"))
	checkParsed(t, "1984~", of("1984~"))
	checkParsed(t, "1984-05-06", of("1984-05-06"))
	checkParsed(t, "1984s4", of("1984s4"))
	checkParsed(t, "198d", of("198d"))
	checkParsed(t, "19c", of("19c"))
	checkParsed(t, "XXXX-XX-XX", of("XXXX-XX-XX"))
	checkParsed(t, "1984/1985", span(of("1984"), of("1985")))
	checkParsed(t, "1984?~ / 1985~?", span(of("1984?~"), of("1985?~")))
	checkParsed(t, "1984?/1985", span(of("1984?"), of("1985")))
	checkParsed(t, "1984/1985~", span(of("1984"), of("1985~")))
	checkParsed(t, "../..", span(open, open))
	checkParsed(t, "*/*", span(unknown, unknown))
	checkParsed(t, "../*", span(open, unknown))
	checkParsed(t, "1984/..", span(of("1984"), open))
	checkParsed(t, "*/1984~", span(unknown, of("1984~")))
	checkParsed(t, "[1984]", list(of("1984")))
	checkParsed(t, "[[1984],[1985,*/..],198d?]", list(list(of("1984")), list(of("1985"), span(unknown, open)), of("198d?")))
	checkParsed(t, "[[[[[[[[1984]]]]]]]]", list(list(list(list(list(list(list(list(of("1984"))))))))))
	checkParsed(t, "[1984,1984]", list(of("1984"), of("1984")))
}

// P13.1 and P13.2: the first token that may not stand where it stands.
func TestErrors(t *testing.T) {
	for _, x := range []struct {
		s     string
		place int
		errno api.Errno
	}{
		{"1984/[", 5, 3}, {"[1984", 5, 4}, {"1984-13", 0, 2}, {"", 0, 4}, {"   ", 3, 4},
		{"..", 2, 4}, {"*", 1, 4}, {"[..", 3, 4}, {"..?", 2, 3}, {"*~", 1, 3}, {"..]", 2, 3}, {"[..]", 3, 3}, {"[..,1984]", 3, 3}, {"[*]", 2, 3}, {".. ..", 3, 3}, {"..*", 2, 3}, {"..1984", 2, 3}, {"..[", 2, 3}, {"..1984-13", 2, 3},
		{"1984/", 5, 4}, {"../", 3, 4}, {"1984//", 5, 3}, {"1984/?", 5, 3}, {"1984/]", 5, 3}, {"1984/,", 5, 3}, {"1984/13", 5, 2}, {"[1984/ [1985]]", 7, 3},
		{"1984/..?", 7, 3}, {"1984/*~", 6, 3}, {"1984/../", 7, 3}, {"1984/1985/", 9, 3}, {"1984/1985/1986", 9, 3}, {"1984/..1985", 7, 3}, {"[1984/..", 8, 4}, {"1984/..]", 7, 3},
		{"1984??", 5, 3}, {"1984~~", 5, 3}, {"1984?~?", 6, 3}, {"1984~?~", 6, 3}, {"1984/1985??", 10, 3}, {"1984?/1985?~~", 12, 3}, {"1984/1985~/", 10, 3},
		{"1984 1985", 5, 3}, {"1984 13", 5, 3}, {"1984,1985", 4, 3}, {"1984]", 4, 3}, {"1984[", 4, 3}, {"1984..", 4, 3}, {"1984*", 4, 3}, {"1984?1985", 5, 3},
		{"[", 1, 4}, {"[]", 1, 3}, {"[,", 1, 3}, {"[/", 1, 3}, {"[?", 1, 3}, {"[1984,", 6, 4}, {"[1984,]", 6, 3}, {"[1984,,", 6, 3}, {"[1984 1985]", 6, 3}, {"[1984]]", 6, 3}, {"[1984]?", 6, 3}, {"[1984]/1985", 6, 3}, {"[1984],", 6, 3}, {"[1984] 1985", 7, 3}, {"[[1984]", 7, 4}, {"[[1984] 1985]", 8, 3}, {"[1984][", 6, 3},
		{"]", 0, 3}, {",", 0, 3}, {"/", 0, 3}, {"?", 0, 3}, {"~", 0, 3}, {"/1984", 0, 3},
		{"13", 0, 2}, {"1984-", 0, 2}, {"-", 0, 2}, {"198", 0, 2}, {"[198]", 1, 2}, {"[1984, 198d5]", 7, 2}, {"1984/198", 5, 2}, {"../s1", 3, 2}, {"1984-05-32?", 0, 2},
		{"19@4", 2, 1}, {"198 @", 4, 1}, {"]@", 1, 1}, {".", 0, 1}, {"1984/.", 5, 1}, {"1984...", 6, 1}, {"[1984\t]", 5, 1}, {"1984 \xff", 5, 1},
		{strings.Repeat(" ", 2001), 2000, 7}, {strings.Repeat("1", 2001), 2000, 7}, {strings.Repeat("@", 2001), 2000, 7}, {strings.Repeat("1", 2000), 0, 2}, {strings.Repeat(" ", 2000), 2000, 4}, {strings.Repeat("[", 2000), 8, 5},
	} {
		checkError(t, x.s, x.place, x.errno)
	}
	checkParsed(t, strings.Repeat(" ", 1996)+"1984", of("1984"))
}

// P13.1: the ninth list, and what is not there for lists.
func TestDeep(t *testing.T) {
	eight, nine := strings.Repeat("[", 8), strings.Repeat("[", 9)
	checkParsed(t, eight+"1984"+strings.Repeat("]", 8), of8(of("1984")))
	checkError(t, nine, 8, api.ErrDeep)
	checkError(t, nine+"1984"+strings.Repeat("]", 9), 8, api.ErrDeep)
	checkError(t, eight+"1984, [1985", 14, api.ErrDeep)
	checkError(t, eight+"1984 [", 13, api.ErrForm)
	checkError(t, eight+"1984/[", 13, api.ErrForm)
	checkError(t, eight, 8, api.ErrShort)
	checkParsed(t, "["+strings.Repeat("[", 7)+"1984"+strings.Repeat("]", 7)+","+strings.Repeat("[", 7)+"1984"+strings.Repeat("]", 7)+"]", list(of8(of("1984")).L[0], of8(of("1984")).L[0]))
	checkError(t, "["+strings.Repeat("[", 7)+"1984"+strings.Repeat("]", 7)+","+strings.Repeat("[", 8), 27, api.ErrDeep)
}

func of8(n api.Node) api.Node {
	for range 8 {
		n = list(n)
	}
	return n
}

// P13.1: the 65th node, of each kind; ErrDeep is ahead of it.
func TestMany(t *testing.T) {
	full := "[" + strings.Repeat("1984,", 62) + "1984" // 64 nodes
	if n, _, errno := parse.Parse(full + "]"); errno != api.OK || tree.Count(n) != 64 {
		t.Errorf("64 nodes: %d", errno)
	}
	at := len(full)
	checkError(t, full, at, api.ErrShort)
	checkError(t, full+"/", at, api.ErrMany)
	checkError(t, full+"?/", at+1, api.ErrMany)
	checkError(t, full+"?~", at+2, api.ErrShort)
	checkError(t, full+",", at+1, api.ErrShort)
	checkError(t, full+",1985", at+1, api.ErrMany)
	checkError(t, full+",..", at+1, api.ErrMany)
	checkError(t, full+", *", at+2, api.ErrMany)
	checkError(t, full+", [", at+2, api.ErrMany)
	checkError(t, full+", ]", at+2, api.ErrForm)
	checkError(t, full+", /", at+2, api.ErrForm)
	checkError(t, full+", ?", at+2, api.ErrForm)

	spans := "[" + strings.Repeat("1984/..,", 20) + "1984,1984" // 63 nodes
	at = len(spans)
	checkError(t, spans+"/", at+1, api.ErrShort)
	checkError(t, spans+"/1985", at+1, api.ErrMany)
	checkError(t, spans+"/..", at+1, api.ErrMany)
	checkError(t, spans+"/*", at+1, api.ErrMany)
	checkError(t, spans+"/]", at+1, api.ErrForm)
	checkError(t, spans+",../", at+3, api.ErrMany)
	checkError(t, spans+",..]", at+3, api.ErrForm)
	checkError(t, spans+",1985/", at+5, api.ErrMany)
	checkError(t, spans+",[", at+2, api.ErrShort)
	checkError(t, spans+",[1985", at+2, api.ErrMany)
	checkError(t, spans+",[[", at+2, api.ErrMany)
	checkError(t, spans+",[]", at+2, api.ErrForm)
	for _, s := range []string{"[" + strings.Repeat("1984/..,", 20) + "../*]", "[" + strings.Repeat("1984/..,", 20) + "1984,1985,1986]"} {
		if n, _, errno := parse.Parse(s); errno != api.OK || tree.Count(n) != 64 {
			t.Errorf("64 nodes: %d, %d", tree.Count(n), errno)
		}
	}

	deep := strings.Repeat("[", 8) + strings.Repeat("1984,", 55) + "1984" // 64 nodes
	checkError(t, deep+",[", len(deep)+1, api.ErrDeep)
	checkError(t, deep+",1985", len(deep)+1, api.ErrMany)
	checkError(t, strings.Repeat("[", 7)+strings.Repeat("1984,", 57)+"[", 7+5*57, api.ErrMany)
}

// The oracle reads tokens as signs: w a point, b another word, D two points, S a star, and the others as they are.
var (
	points = regexp.MustCompile(`w(\?~|~\?|\?|~)?`)
	spans  = regexp.MustCompile(`[pDS]/[pDS]`)
	lists  = regexp.MustCompile(`\[e(,e)*\]`)
)

// valid: are the signs an expression?
func valid(s string) bool {
	s = points.ReplaceAllString(s, "p")
	s = spans.ReplaceAllString(s, "e")
	s = strings.ReplaceAll(s, "p", "e")
	for shorter := ""; shorter != s; {
		shorter = s
		s = lists.ReplaceAllString(s, "e")
	}
	return s == "e"
}

// viable: does some expression go on with the signs?
func viable(s string) bool {
	for _, tail := range []string{"", "w", "/w"} {
		for range 9 {
			if valid(s + tail) {
				return true
			}
			tail += "]"
		}
	}
	return false
}

// text writes signs as a text, with blanks by chance, and tells their places.
func text(r *rand.Rand, s string) (string, []int) {
	written := map[rune]string{'w': "1984", 'b': "1984-13", 'D': "..", 'S': "*"}
	var b strings.Builder
	var places []int
	for _, c := range s {
		b.WriteString(strings.Repeat(" ", r.Intn(2)))
		if (c == 'w' || c == 'b') && b.Len() > 0 {
			b.WriteByte(' ')
		}
		places = append(places, b.Len())
		if w, ok := written[c]; ok {
			b.WriteString(w)
		} else {
			b.WriteRune(c)
		}
	}
	b.WriteString(strings.Repeat(" ", r.Intn(2)))
	return b.String(), append(places, b.Len())
}

// verdict tells which sign is wrong, and how; of none, how many there are, OK.
func verdict(s string) (int, api.Errno) {
	for i, c := range s {
		switch {
		case c == 'b' && viable(s[:i]+"w"):
			return i, api.ErrPoint
		case c == 'b' || !viable(s[:i+1]):
			return i, api.ErrForm
		}
	}
	if !valid(s) {
		return len(s), api.ErrShort
	}
	return len(s), api.OK
}

// P13.1 and P13.2: all texts of up to four tokens, and longer ones by chance, against the oracle.
func TestTokens(t *testing.T) {
	r := rand.New(rand.NewSource(13))
	signs := "wbDS/[],?~"
	all := []string{""}
	for from := 0; len(all) < 11111; from++ {
		for _, c := range signs {
			all = append(all, all[from]+string(c))
		}
	}
	for range 6000 {
		s := ""
		for range 20 {
			next := s + string("wwDS//[],,]?~b"[r.Intn(14)])
			if viable(next) || r.Intn(20) == 0 {
				s = next
			}
		}
		all = append(all, s)
	}
	for _, s := range all {
		if strings.Contains(s, "[[[[[[[[[") {
			continue
		}
		where, want := verdict(s)
		told, places := text(r, s)
		n, at, errno := parse.Parse(told)
		if errno != want || at != places[where] || errno != api.OK && !tree.Same(n, api.Node{}) {
			t.Fatalf("Parse(%q): %d, %d, not %d, %d", told, at, errno, places[where], want)
		}
		if errno == api.OK {
			checkTokens(t, told, n)
		}
	}
}

// checkTokens asks that an expression's tokens are those of the text.
func checkTokens(t *testing.T, s string, n api.Node) {
	t.Helper()
	a, _, _ := lex.All(s)
	b, _, _ := lex.All(print.Text(n))
	same := func(x, y api.Tok) bool { return x.Kind == y.Kind && x.S == y.S }
	swapped := strings.ReplaceAll(strings.ReplaceAll(s, " ", ""), "~?", "?~") != strings.ReplaceAll(s, " ", "")
	if !tree.Sane(n) || !swapped && !slices.EqualFunc(a, b, same) {
		t.Errorf("%q is read as %q", s, print.Text(n))
	}
}

// byChance tells an expression.
func byChance(r *rand.Rand, deep int) api.Node {
	words := []string{"1984", "1985?", "1984~", "198d?~", "1984-05-06", "19c", "1984s2", "1984-05", "1984?"}
	end := func() api.Node {
		return []api.Node{of(words[r.Intn(len(words))]), of(words[r.Intn(len(words))]), open, unknown}[r.Intn(4)]
	}
	switch k := r.Intn(8); {
	case k < 3 || deep == 0:
		return of(words[r.Intn(len(words))])
	case k < 5:
		return span(end(), end())
	}
	n := api.Node{Kind: 2}
	for range 1 + r.Intn(4) {
		n.L = append(n.L, byChance(r, deep-1))
	}
	return n
}

// P13.3: what is told of an expression is parsed to it.
func TestWrittenIsParsed(t *testing.T) {
	r := rand.New(rand.NewSource(133))
	for range 5000 {
		if n := byChance(r, 5); tree.Sane(n) {
			checkParsed(t, print.Text(n), n)
		}
	}
}

// P13.3, R1: of any bytes there is an expression, or one error, and a place.
func TestAnyBytes(t *testing.T) {
	r := rand.New(rand.NewSource(134))
	for range 20000 {
		b := make([]byte, r.Intn(16))
		for i := range b {
			b[i] = "1984X-sdc/.*[],?~ \x00\xc3"[r.Intn(20)]
		}
		n, at, errno := parse.Parse(string(b))
		if at < 0 || at > len(b) || (errno == api.OK) != tree.Sane(n) || errno == api.OK && at != len(b) {
			t.Errorf("Parse(%q): %v, %d, %d", b, n, at, errno)
		}
	}
}
