package player_test

import (
	"math/rand"
	"strconv"
	"strings"
	"testing"

	"lustrum/allen"
	"lustrum/api"
	"lustrum/parse"
	"lustrum/player"
	"lustrum/print"
	"lustrum/shelf"
)

// told is what lines tell, one behind the other, from an empty shelf on; and the shelf behind them.
func told(lines ...string) (api.Shelf, []string) {
	var s api.Shelf
	var l []string
	for _, line := range lines {
		var text string
		s, text = player.Line(s, line)
		l = append(l, text)
	}
	return s, l
}

// shown is a shelf as names and texts.
func shown(s api.Shelf) string {
	var b strings.Builder
	for _, item := range s.L {
		b.WriteString(item.Name + " " + print.Text(item.N) + "; ")
	}
	return b.String()
}

// check asks for what lines tell: each element of l is a line, " => ", and what it tells.
func check(t *testing.T, l ...string) {
	t.Helper()
	var s api.Shelf
	for _, x := range l {
		line, want, _ := strings.Cut(x, " => ")
		before := shown(s)
		next, got := player.Line(s, line)
		if got != want {
			t.Errorf("%q tells %q, not %q", line, got, want)
		}
		if shown(s) != before {
			t.Errorf("%q changed %q", line, before)
		}
		changes := strings.HasPrefix(strings.TrimLeft(line, " "), "put ") || strings.HasPrefix(strings.TrimLeft(line, " "), "drop ")
		if (!changes || strings.HasPrefix(got, "error")) && shown(next) != before {
			t.Errorf("%q made of %q %q", line, before, shown(next))
		}
		s = next
	}
}

// P24.1: each command.
func TestCommands(t *testing.T) {
	check(t,
		"list => -",
		"put a 198d => 198d",
		"put b [1985, 1984] => [1984, 1985]",
		"list => a b",
		"on 1984-05-05 => a b | a",
		"on 1979-12-31 => - | -",
		"on 1980-01-01 => a | a",
		"show b => [1984, 1985]",
		"days a => 1980-01-01 1989-12-31",
		"days b => 1984-01-01 1985-12-31",
		"relate b a => during",
		"relate a b => contains",
		"relate b b => meets equals met-by",
		"may meets 1985 => b",
		"must meets 1985 => -",
		"may contains 1985 => a",
		"must contains 1985 => a",
		"may before 1990 => b",
		"may meets 1990 => a",
		"narrow a 1983/1986 => error 9",
		"narrow a 1980/.. => 1980-01-01 1989-12-31",
		"narrow b 1985/* => 1985-01-01 1985-12-31",
		"put c 1984-0X/* => 1984-0X/*",
		"narrow c 1984-05/1984-05 => 1984-05-01 1984-05-31",
		"days c => 1984-01-01 9999-12-31",
		"put d 0000-01-01~ => 0000-01-01~",
		"days d => 0000-01-01 0000-01-04",
		"drop b => ok",
		"list => d a c",
		"drop a => ok",
		"drop c => ok",
		"show d => 0000-01-01~",
		"drop d => ok",
		"list => -",
	)
}

// P24.1: the words of a line, the rest, and what is told of none.
func TestWordsAndRests(t *testing.T) {
	check(t,
		"   put   a   1984   ?   => 1984?",
		"put b [ 1985 ,1984 ]  => [1984, 1985]",
		" list  => a b",
		"  show  a  => 1984?",
		"put e 2023-02-3X => 2023-02-3X",
		"put f 1985/1984 => 1985/1984",
		"list => a b e f",
		"relate a e => -",
		"relate e f => -",
		"relate  a  b  => meets equals",
		"days e => error 9",
		"narrow a 2023-02-3X => error 9",
		"may before 2023-02-3X => -",
		"must after [1980,  1981] => a b",
		"may   after   [1980,  1981]   => a b",
		"on   1984-02-29   => a b | a",
		"drop   a   => ok",
		"show a => error 12",
	)
}

// P24.2: the errors, and their order.
func TestErrors(t *testing.T) {
	const full = "put a 1984 => 1984"
	check(t, full,
		"foo => error 13", "Put a 1984 => error 13", "puts a 1984 => error 13", "1984 => error 13", "pu => error 13", "list\t => error 13", "\tlist => error 13", "list\r => error 13", "\x00 => error 13", "foo bar baz => error 13", "put\ta 1984 => error 13", "\xff => error 13",
		"put => error 4", "put b => error 4", "put b   => error 4", "put  => error 4", "drop => error 4", "show => error 4", "days => error 4", "on => error 4", "may => error 4", "may before => error 4", "may foo => error 4", "must => error 4", "must before  => error 4", "relate => error 4", "relate a => error 4", "relate q => error 4", "narrow => error 4", "narrow a => error 4", "narrow q  => error 4", "put ! => error 4",
		"list a => error 3", "list list => error 3", "drop a b => error 3", "drop q b => error 3", "show a a => error 3", "show q q => error 3", "days a 1984 => error 3", "on 1984-05-05 a => error 3", "on x x => error 3", "relate a a a => error 3", "relate q q q => error 3",
		"may foo 1984 => error 13", "must Before 1984 => error 13", "may foo @ => error 13", "must foo XXXX => error 13", "may 0 1984 => error 13", "must finished by 1984 => error 13",
		"drop q => error 12", "show q => error 12", "days q => error 12", "relate q a => error 12", "relate a q => error 12", "relate q q => error 12", "narrow q 1984 => error 12", "narrow q @ => error 12", "narrow q XXXX => error 12", "show A => error 12", "drop a! => error 12",
		"put b @ => error 1 at 0", "put b 1984 @ => error 1 at 5", "put b   1984/. => error 1 at 5", "put b 1984/[ => error 3 at 5", "put b [1984 => error 4 at 5", "put b [1984   => error 4 at 7", "put b 1984-13 => error 2 at 0", "put b [[[[[[[[[1984 => error 5 at 8", "put B @ => error 1 at 0", "put a @ => error 1 at 0", "put b 1984\r => error 1 at 4",
		"may before @ => error 1 at 0", "must before  1984 1985 => error 3 at 5", "narrow a 1984, => error 3 at 4", "narrow a 1984/13 => error 2 at 5", "put b ["+strings.Repeat("1984,", 70)+" => error 6 at 316", "put b "+strings.Repeat("1", 2001)+" => error 7 at 2000", "may meets "+strings.Repeat(".", 2001)+" => error 7 at 2000",
		"on x => error 2", "on 1984 => error 2", "on 1984-05 => error 2", "on 1984-13-01 => error 2", "on 1985-02-29 => error 2", "on 1984-02-30 => error 2", "on 1984-00-01 => error 2", "on 1984-01-00 => error 2", "on 1984-04-3X => error 2", "on 198X-05-05 => error 2", "on 1984-5-5 => error 2", "on 1984-05-05~ => error 2", "on +984-05-05 => error 2", "on -984-05-05 => error 2", "on 1984-+5-05 => error 2", "on 1984-05--5 => error 2", "on 11984-05-05 => error 2", "on 1984/05/05 => error 2", "on 1984-0505 => error 2", "on 1984-XX-XX => error 2", "on 2000-1X-31 => error 2", "on 2000-02-X9 => error 2",
		"put B 1984 => error 10", "put ! 1984 => error 10", "put B XXXX => error 10", "put abcdefghijklmnop1 1984 => error 10", "put a XXXX => error 8", "put b XXXX => error 8", "put a 1985 => error 11", "put a [1984] => error 11",
		"may before XXXX => error 8", "must before [1984, XXXX] => error 8", "narrow a XXXX => error 8", "narrow a 1985 => error 9", "narrow a 1984-05 => error 9", "narrow a 1984 => 1984-01-01 1984-12-31",
		"put abcdefghijklmnop 0 => error 2 at 0", "put abcdefghijklmnop 1984 => 1984", "list => a abcdefghijklmnop",
		"on 0000-01-01 => - | -", "on 9999-12-31 => - | -", "on 1984-02-29 => a abcdefghijklmnop | a abcdefghijklmnop",
	)
}

// P24.2: a shelf that is full.
func TestFullShelf(t *testing.T) {
	var lines []string
	for i := range 64 {
		lines = append(lines, "put n"+strconv.Itoa(i)+" 1984")
	}
	s, _ := told(lines...)
	for line, want := range map[string]string{"put b 1984": "error 6", "put n5 1984": "error 11", "put B 1984": "error 10", "put b XXXX": "error 8", "put b @": "error 1 at 0", "drop b": "error 12", "show n63": "1984"} {
		if next, got := player.Line(s, line); got != want || shown(next) != shown(s) {
			t.Errorf("%q tells %q, not %q", line, got, want)
		}
	}
	if next, got := player.Line(s, "drop n9"); got != "ok" || len(next.L) != 63 {
		t.Errorf("drop of one of 64: %q, %d", got, len(next.L))
	}
}

// P24.2 and W4: narrowing that leaves too much; relations by rising numbers.
func TestWide(t *testing.T) {
	check(t,
		"put a XXXX-XX-XX => XXXX-XX-XX",
		"put b 19XX-01-X1 => 19XX-01-X1",
		"narrow a [19XX-01-X1, 18XX-01-X1] => error 8",
		"narrow a 19XX-01-X1 => 1900-01-01 1999-01-31",
		"narrow b a => error 1 at 0",
		"put c */* => */*",
		"relate c c => before meets overlaps starts during finishes equals finished-by contains started-by overlapped-by met-by after",
		"relate a c => before meets starts during finishes equals met-by after",
		"narrow c [19XX-01-X1, 18XX-01-X1] => error 8",
		"days c => 0000-01-01 9999-12-31",
		"may equals */* => a c b",
		"must equals */* => -",
	)
}

// P24.1: each relation's name leads to what allen and shelf tell.
func TestRelations(t *testing.T) {
	s, _ := told("put a 1984", "put b 1983/1985", "put c 1984-05", "put d 1983-05/1984-05", "put e 1982", "put f 1984-01/1984-02", "put g 1984-11/1984-12", "put h 1984-07/1985")
	for r := range 13 {
		n, _, _ := parse.Parse("1984")
		for must, word := range map[bool]string{false: "may", true: "must"} {
			names, _ := shelf.Find(s, n, 1<<r, must)
			want := strings.Join(names, " ")
			if want == "" {
				want = "-"
			}
			if _, got := player.Line(s, word+" "+allen.Name(r)+" 1984"); got != want {
				t.Errorf("%s %s: %q, not %q", word, allen.Name(r), got, want)
			}
		}
	}
}

// P24.1: a shelf that may not be counts as an empty one.
func TestInsaneShelf(t *testing.T) {
	n, _, _ := parse.Parse("[1985, 1984]")
	year, _, _ := parse.Parse("1984")
	for i, s := range []api.Shelf{{L: []api.Item{{Name: "a", N: n}}}, {L: []api.Item{{Name: "A", N: year}}}, {L: []api.Item{{Name: "b", N: year}, {Name: "a", N: year}}}, {L: make([]api.Item, 65)}} {
		for line, want := range map[string]string{"list": "-", "show a": "error 12", "drop a": "error 12", "on 1984-05-05": "- | -", "may equals 1984": "-", "foo": "error 13", "put": "error 4", "days a": "error 12", "put A 1984": "error 10", "put a @": "error 1 at 0", "list a": "error 3"} {
			if next, got := player.Line(s, line); got != want || len(next.L) > 0 {
				t.Errorf("shelf %d, %q: %q, not %q; %q", i, line, got, want, shown(next))
			}
		}
		if next, got := player.Line(s, "put q 1984"); got != "1984" || shown(next) != "q 1984; " {
			t.Errorf("shelf %d: %q", i, shown(next))
		}
	}
}

// P24.3: lines, and what is between them.
func TestRun(t *testing.T) {
	for text, want := range map[string]string{
		"":                   "",
		"\n\n   \n":          "",
		"list":               "-\n",
		"list\n":             "-\n",
		"\nlist\n\nlist\n  ": "-\n-\n",
		"\t":                 "error 13\n",
		"list\r\n":           "error 13\n",
		"put a 198d\nput b [1985, 1984]\nlist\non 1984-05-05": "198d\n[1984, 1985]\na b\na b | a\n",
		"put a 1984\ndrop a\nshow a\nput a 1985\nshow a\n":    "1984\nok\nerror 12\n1985\n1985\n",
		"put a 1984\nput a 1985\nfoo\nshow a":                 "1984\nerror 11\nerror 13\n1984\n",
		"put a\n1984":                                         "error 4\nerror 13\n",
	} {
		if got := player.Run(text); got != want {
			t.Errorf("Run(%q): %q, not %q", text, got, want)
		}
	}
}

// byChance tells lines, most of them sensible.
func byChance(r *rand.Rand) []string {
	words := []string{"1984", "198X", "1984~", "198d", "1984-05-06", "19c", "1984s2", "2023-02-3X", "1984/1985", "1984/*", "[1986, 1984]", "1985/1984", "XXXX", "[1984", "@", "1984-13", ""}
	names := []string{"a", "b", "c", "d", "A", ""}
	name, word := func() string { return names[r.Intn(6)] }, func() string { return words[r.Intn(len(words))] }
	var lines []string
	for range r.Intn(30) {
		lines = append(lines, []string{
			"put " + name() + " " + word(), "put " + name() + " " + word(), "put a " + word(), "put b " + word(), "drop " + name(), "show " + name(), "list", "days " + name(), "on 1984-05-0" + strconv.Itoa(r.Intn(10)), "on " + word(),
			"may " + allen.Name(r.Intn(15)) + " " + word(), "must " + allen.Name(r.Intn(14)) + " " + word(), "relate " + name() + " " + name(), "narrow " + name() + " " + word(), "", "  ", "foo " + word(),
		}[r.Intn(17)])
	}
	return lines
}

// P24.3 and P24.4: what is told of lines is what Line tells of them, one behind the other; what one tells hangs on those ahead of it alone.
func TestRunByChance(t *testing.T) {
	r := rand.New(rand.NewSource(24))
	for range 400 {
		lines := byChance(r)
		want := ""
		var s api.Shelf
		for _, line := range lines {
			if strings.Trim(line, " ") == "" {
				continue
			}
			var text string
			s, text = player.Line(s, line)
			if !shelf.Sane(s) {
				t.Fatalf("%q made a shelf that may not be", line)
			}
			want += text + "\n"
		}
		text := strings.Join(lines, "\n")
		if got := player.Run(text); got != want {
			t.Fatalf("Run(%q): %q, not %q", text, got, want)
		}
		half := len(lines) / 2
		if got := player.Run(strings.Join(lines[:half], "\n")); !strings.HasPrefix(want, got) {
			t.Fatalf("Run of the first lines of %q: %q", text, got)
		}
	}
}

// P1: any bytes.
func TestAnyBytes(t *testing.T) {
	r := rand.New(rand.NewSource(241))
	parts := []string{"put", "drop", "show", "list", "on", "may", "must", "relate", "narrow", "days", " ", " ", " ", "a", "b", "1984", "[", "]", ",", "/", "..", "*", "\n", "\xff", "é", "before", "\x00", "XXXX", "~"}
	for range 3000 {
		text := ""
		for range r.Intn(25) {
			text += parts[r.Intn(len(parts))]
		}
		lines := 0
		for _, line := range strings.Split(text, "\n") {
			if strings.Trim(line, " ") != "" {
				lines++
			}
		}
		if got := player.Run(text); strings.Count(got, "\n") != lines {
			t.Errorf("Run(%q): %q", text, got)
		}
	}
}
