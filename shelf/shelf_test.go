package shelf_test

import (
	"math"
	"math/rand"
	"slices"
	"strings"
	"testing"

	"lustrum/allen"
	"lustrum/api"
	"lustrum/canon"
	"lustrum/civil"
	"lustrum/cover"
	"lustrum/denote"
	"lustrum/order"
	"lustrum/parse"
	"lustrum/print"
	"lustrum/relate"
	"lustrum/shelf"
	"lustrum/tree"
)

// noNames are texts that are no name.
var noNames = []string{"", " ", "A", "aB", "a b", "a-b", "a_b", "a\n", "é", "\xff", "abcdefghijklmnop1", strings.Repeat("a", 1<<16), "`", "{", "/", ":", "a\x00", "1984~"}

// parsed is the expression of a text that is one.
func parsed(t *testing.T, s string) api.Node {
	t.Helper()
	n, _, errno := parse.Parse(s)
	if errno != api.OK {
		t.Fatalf("%q: %d", s, errno)
	}
	return n
}

// made is the shelf of names and texts, put one behind the other.
func made(t *testing.T, l ...string) api.Shelf {
	t.Helper()
	var s api.Shelf
	for i := 0; i+1 < len(l); i += 2 {
		var errno api.Errno
		if s, errno = shelf.Put(s, l[i], parsed(t, l[i+1])); errno != api.OK {
			t.Fatalf("Put %q %q: %d", l[i], l[i+1], errno)
		}
	}
	return s
}

// shown is a shelf as names and texts.
func shown(s api.Shelf) string {
	var b strings.Builder
	for _, item := range s.L {
		b.WriteString(item.Name + " " + print.Text(item.N) + "; ")
	}
	return b.String()
}

// item is an item with the expression of a text, as it is.
func item(t *testing.T, name, s string) api.Item {
	return api.Item{Name: name, N: parsed(t, s)}
}

// many is a shelf of n items.
func many(t *testing.T, n int) api.Shelf {
	var s api.Shelf
	for i := range n {
		s.L = append(s.L, item(t, "n"+string(rune('a'+i/26))+string(rune('a'+i%26)), "1984"))
	}
	return s
}

// insane are shelves that may not be.
func insane(t *testing.T) map[string]api.Shelf {
	l := map[string]api.Shelf{"too many items": many(t, 65), "a double name": {L: []api.Item{item(t, "a", "1984"), item(t, "a", "1984")}}, "falling names": {L: []api.Item{item(t, "b", "1984"), item(t, "a", "1984")}}, "no expression": {L: []api.Item{{Name: "a"}}}, "an open end": {L: []api.Item{{Name: "a", N: api.Node{Kind: 3}}}}}
	for _, s := range []string{"[1984]", "[1985, 1984]", "[1984, 1984]", "[1984, [1985]]", "XXXX", "1984/XXXX", "[1984, XXXX-01]"} {
		l[s] = api.Shelf{L: []api.Item{item(t, "a", "1984"), item(t, "b", s)}}
	}
	for _, name := range noNames {
		l["name "+name[:min(len(name), 30)]] = api.Shelf{L: []api.Item{item(t, name, "1984")}}
	}
	return l
}

// P23.1
func TestSane(t *testing.T) {
	for i, s := range []api.Shelf{{}, {L: []api.Item{}}, many(t, 64), many(t, 1), {L: []api.Item{item(t, "0", "1984"), item(t, "00", "[1984, 1985]"), item(t, "9z", "2023-02-3X"), item(t, "a", "1984/.."), item(t, "a0", "1985/1984"), item(t, "aa", "1984?~"), item(t, "abcdefghijklmnop", "XXXX-XX-XX"), item(t, "z", "1984")}}} {
		if !shelf.Sane(s) {
			t.Errorf("shelf %d may be", i)
		}
	}
	for why, s := range insane(t) {
		if shelf.Sane(s) {
			t.Errorf("%q may not be", why)
		}
	}
	for _, c := range "abcdefghijklmnopqrstuvwxyz0123456789" {
		if !shelf.Sane(api.Shelf{L: []api.Item{item(t, string(c), "1984")}}) {
			t.Errorf("%q is a name", c)
		}
	}
}

// P23.1: what may not be counts as an empty shelf, in all calls.
func TestInsane(t *testing.T) {
	for why, s := range insane(t) {
		before := shown(s)
		if got, errno := shelf.Put(s, "q", parsed(t, "[1985, 1984]")); errno != api.OK || shown(got) != "q [1984, 1985]; " {
			t.Errorf("Put on %q: %q, %d", why, shown(got), errno)
		}
		if got, errno := shelf.Put(s, "Q", parsed(t, "1984")); errno != api.ErrName || len(got.L) > 0 {
			t.Errorf("Put on %q: %q, %d", why, shown(got), errno)
		}
		if got, errno := shelf.Put(s, "a", parsed(t, "XXXX")); errno != api.ErrWide || len(got.L) > 0 {
			t.Errorf("Put on %q: %q, %d", why, shown(got), errno)
		}
		if got, errno := shelf.Drop(s, "a"); errno != api.ErrNone || len(got.L) > 0 {
			t.Errorf("Drop of %q: %q, %d", why, shown(got), errno)
		}
		if n, errno := shelf.Get(s, "a"); errno != api.ErrNone || !tree.Same(n, api.Node{}) {
			t.Errorf("Get of %q: %v, %d", why, n, errno)
		}
		a, b := shelf.On(s, 724641)
		l, errno := shelf.Find(s, parsed(t, "1984"), -1, false)
		if len(shelf.Names(s)) > 0 || len(a)+len(b)+len(l) > 0 || errno != api.OK {
			t.Errorf("%q has names", why)
		}
		if _, errno := shelf.Find(s, parsed(t, "XXXX"), -1, false); errno != api.ErrWide {
			t.Errorf("Find on %q: %d", why, errno)
		}
		if shown(s) != before {
			t.Errorf("%q was changed", why)
		}
	}
}

// P23.2: items in their places, as canonical expressions.
func TestPut(t *testing.T) {
	s := made(t, "m", "1984", "b", "[1985, [1984, 1985]]", "z", "[1984]", "0", "1984/..", "mm", "1985/1984", "abcdefghijklmnop", "2023-02-3X", "a", "1984~?")
	want := "0 1984/..; a 1984?~; abcdefghijklmnop 2023-02-3X; b [1984, 1985]; m 1984; mm 1985/1984; z 1984; "
	if shown(s) != want || !shelf.Sane(s) {
		t.Errorf("%q, not %q", shown(s), want)
	}
	for _, x := range []struct {
		name string
		n    api.Node
		want api.Errno
	}{
		{"A", parsed(t, "1984"), api.ErrName}, {"", api.Node{}, api.ErrName}, {"abcdefghijklmnop1", parsed(t, "XXXX"), api.ErrName}, {"q", api.Node{}, api.ErrForm}, {"q", api.Node{Kind: 3}, api.ErrForm}, {"q", parsed(t, "XXXX"), api.ErrWide}, {"q", parsed(t, "[1984, 1XXX]"), api.ErrWide},
		{"m", api.Node{}, api.ErrForm}, {"m", parsed(t, "XXXX"), api.ErrWide}, {"m", parsed(t, "1990"), api.ErrUsed}, {"z", parsed(t, "1984"), api.ErrUsed}, {"0", parsed(t, "1984"), api.ErrUsed},
	} {
		got, errno := shelf.Put(s, x.name, x.n)
		if errno != x.want || shown(got) != want {
			t.Errorf("Put %q: %q, %d, not %d", x.name, shown(got), errno, x.want)
		}
	}
	for _, name := range noNames {
		if got, errno := shelf.Put(s, name, parsed(t, "1984")); errno != api.ErrName || shown(got) != want {
			t.Errorf("Put %q: %d", name[:min(len(name), 30)], errno)
		}
	}
}

// P23.2: 64 items, and one more.
func TestPutMany(t *testing.T) {
	s, errno := shelf.Put(many(t, 63), "a", parsed(t, "1984"))
	if errno != api.OK || len(s.L) != 64 || s.L[0].Name != "a" {
		t.Fatalf("the 64th item: %d, %d", len(s.L), errno)
	}
	for _, x := range []struct {
		name, text string
		want       api.Errno
	}{{"b", "1984", api.ErrMany}, {"zz", "1984", api.ErrMany}, {"a", "1984", api.ErrUsed}, {"B", "1984", api.ErrName}, {"b", "XXXX", api.ErrWide}} {
		if got, errno := shelf.Put(s, x.name, parsed(t, x.text)); errno != x.want || shown(got) != shown(s) {
			t.Errorf("Put %q %q on 64 items: %d, not %d", x.name, x.text, errno, x.want)
		}
	}
	s, errno = shelf.Drop(s, "nab")
	if errno != api.OK || len(s.L) != 63 {
		t.Errorf("Drop: %d, %d", len(s.L), errno)
	}
	if s, errno = shelf.Put(s, "zz", parsed(t, "1984")); errno != api.OK || s.L[63].Name != "zz" {
		t.Errorf("Put at the end: %d", errno)
	}
}

// P23.2 and P23.5: what was put is got as its canonical expression, until it is dropped; nothing handed in is changed.
func TestGetAndDrop(t *testing.T) {
	s := made(t, "b", "[1985, 1984]", "a", "1986", "c", "[1984/.., 19c]")
	before := shown(s)
	for name, text := range map[string]string{"a": "1986", "b": "[1985, 1984]", "c": "[1984/.., 19c]"} {
		if n, errno := shelf.Get(s, name); errno != api.OK || !tree.Same(n, canon.Canon(parsed(t, text))) {
			t.Errorf("Get %q: %q, %d", name, print.Text(n), errno)
		}
		got, errno := shelf.Drop(s, name)
		if errno != api.OK || len(got.L) != 2 || strings.Contains(shown(got), name+" ") || !shelf.Sane(got) {
			t.Errorf("Drop %q: %q, %d", name, shown(got), errno)
		}
		if n, errno := shelf.Get(got, name); errno != api.ErrNone || !tree.Same(n, api.Node{}) {
			t.Errorf("Get of %q behind Drop: %v, %d", name, n, errno)
		}
		if again, errno := shelf.Put(got, name, parsed(t, text)); errno != api.OK || shown(again) != before {
			t.Errorf("Put of %q again: %q, %d", name, shown(again), errno)
		}
	}
	for _, name := range append(noNames, "d", "aa", "0") {
		if got, errno := shelf.Drop(s, name); errno != api.ErrNone || shown(got) != before {
			t.Errorf("Drop %q: %d", name, errno)
		}
		if n, errno := shelf.Get(s, name); errno != api.ErrNone || !tree.Same(n, api.Node{}) {
			t.Errorf("Get %q: %d", name, errno)
		}
	}
	if shown(s) != before {
		t.Errorf("%q was changed to %q", before, shown(s))
	}
	if got, errno := shelf.Drop(made(t, "a", "1984"), "a"); errno != api.OK || len(got.L) > 0 {
		t.Errorf("Drop of the only one: %q, %d", shown(got), errno)
	}
}

// P23.3: by what they mean, and of one meaning by their names; those without pairs behind all others.
func TestNames(t *testing.T) {
	for _, x := range []struct {
		l    []string
		want string
	}{
		{nil, ""}, {[]string{"b", "[1985, 1984]", "a", "1986"}, "b a"}, {[]string{"a", "198d", "b", "[1984, 1985]"}, "a b"}, {[]string{"c", "1984", "a", "1984", "b", "1984?"}, "a b c"},
		{[]string{"a", "2023-02-3X", "b", "1985/1984", "c", "1984", "d", "1983", "e", "2023-02-3X"}, "d c a b e"}, {[]string{"a", "*/*", "b", "0000", "c", "../..", "d", "0000-01-01", "e", "9999"}, "d b a c e"}, {[]string{"zz", "1980", "y", "1980/1981", "x", "1980-02", "w", "1980-01"}, "w zz y x"},
	} {
		if got := strings.Join(shelf.Names(made(t, x.l...)), " "); got != x.want {
			t.Errorf("Names of %q: %q, not %q", x.l, got, x.want)
		}
	}
}

// P23.3: on a day.
func TestOn(t *testing.T) {
	s := made(t, "b", "[1985, 1984]", "a", "198d", "c", "1984-05", "d", "1985/1984", "e", "1984/*", "f", "*/*", "g", "1984-05-05")
	day := func(y, m, d int) int {
		n, _ := civil.Number(y, m, d)
		return n
	}
	for _, x := range []struct {
		day               int
		possible, certain string
	}{
		{day(1984, 5, 5), "f a b e c g", "a c g"}, {day(1984, 5, 6), "f a b e c", "a c"}, {day(1984, 1, 1), "f a b e", "a e"}, {day(1983, 12, 31), "f a", "a"}, {day(1985, 7, 1), "f a b e", "a"}, {day(1990, 1, 1), "f e", ""}, {0, "f", ""}, {api.MaxDay, "f e", ""},
		{-1, "", ""}, {api.MaxDay + 1, "", ""}, {math.MinInt, "", ""}, {math.MaxInt, "", ""},
	} {
		possible, certain := shelf.On(s, x.day)
		if strings.Join(possible, " ") != x.possible || strings.Join(certain, " ") != x.certain {
			t.Errorf("On %d: %q, %q, not %q, %q", x.day, possible, certain, x.possible, x.certain)
		}
	}
}

// P23.4: by hand.
func TestFind(t *testing.T) {
	s := made(t, "a", "1984", "b", "[1983, 1984]", "c", "1984-05", "d", "2023-02-3X", "e", "198d", "f", "1984?")
	for _, x := range []struct {
		text string
		mask int
		must bool
		want string
	}{
		{"1984", 1 << allen.Equals, false, "b a f"}, {"1984", 1 << allen.Equals, true, "a f"}, {"1984", 1<<allen.Equals | 1<<allen.Meets, true, "b a f"}, {"1984", 1 << allen.Contains, true, "e"}, {"1984", 1 << allen.During, true, "c"}, {"1984", 1 << allen.After, false, ""}, {"1984", 0, false, ""}, {"1984", 0, true, ""},
		{"1984", -1, true, "e b a f c"}, {"1984", math.MaxInt, false, "e b a f c"}, {"1984", 1 << 13, false, ""}, {"1984", math.MinInt, true, ""}, {"2023-02-3X", -1, false, ""}, {"2023-02-3X", -1, true, ""}, {"1985/1984", 1<<13 - 1, false, ""}, {"*/*", 1 << allen.Before, false, "e b a f c"}, {"1985", 1<<allen.Before | 1<<allen.Meets, true, "b a f c"},
	} {
		got, errno := shelf.Find(s, parsed(t, x.text), x.mask, x.must)
		if errno != api.OK || strings.Join(got, " ") != x.want {
			t.Errorf("Find %q, %d, %v: %q, %d, not %q", x.text, x.mask, x.must, got, errno, x.want)
		}
	}
	for _, must := range []bool{false, true} {
		for _, x := range []struct {
			n    api.Node
			want api.Errno
		}{{api.Node{}, api.ErrForm}, {api.Node{Kind: 4}, api.ErrForm}, {parsed(t, "XXXX"), api.ErrWide}, {parsed(t, "[1984, XXXX/..]"), api.ErrWide}} {
			if got, errno := shelf.Find(s, x.n, -1, must); len(got) > 0 || errno != x.want {
				t.Errorf("Find of what has no denotation: %q, %d, not %d", got, errno, x.want)
			}
		}
	}
}

// byChance tells a shelf, and the texts of its items.
func byChance(t *testing.T, r *rand.Rand) api.Shelf {
	words := []string{"1984", "198X", "1984~", "198d", "1984-05-06", "1984-05-0X", "19c", "1984s2", "1984-05~", "2023-02-3X", "1984/1985", "1984/*", "*/1984", "[1984, 1986]", "1985/1984", "[1984-05, 1983]"}
	var s api.Shelf
	for range r.Intn(9) {
		s, _ = shelf.Put(s, string(rune('a'+r.Intn(12))), parsed(t, words[r.Intn(len(words))]))
	}
	return s
}

// P23.3 to P23.5: shelves by chance, against the calls of the layers below; who must may.
func TestByChance(t *testing.T) {
	r := rand.New(rand.NewSource(23))
	for range 400 {
		s := byChance(t, r)
		var names []string
		var families [][]api.Leaf
		for _, item := range s.L {
			l, _ := denote.Of(item.N)
			families = append(families, l)
		}
		day, mask := 724000+r.Intn(2000), r.Intn(1<<13)
		if r.Intn(2) == 0 {
			mask = 1 << r.Intn(13)
		}
		n := parsed(t, []string{"1984", "198X", "1984-05-05", "1984/*", "[1983, 1985]"}[r.Intn(5)])
		other, _ := denote.Of(n)
		var lists [4][]string
		for _, at := range order.Sort(families) {
			name, l := s.L[at].Name, families[at]
			names = append(names, name)
			can := slices.ContainsFunc(allen.List(mask), func(rel int) bool { return relate.Can(l, other, rel) })
			for i, in := range []bool{cover.Possible(l, day), cover.Certain(l, day), can, relate.Must(l, other, mask)} {
				if in {
					lists[i] = append(lists[i], name)
				}
			}
		}
		possible, certain := shelf.On(s, day)
		may, _ := shelf.Find(s, n, mask, false)
		must, _ := shelf.Find(s, n, mask, true)
		if !slices.Equal(shelf.Names(s), names) {
			t.Errorf("Names of %q: %q, not %q", shown(s), shelf.Names(s), names)
		}
		for i, got := range [][]string{possible, certain, may, must} {
			if !slices.Equal(got, lists[i]) {
				t.Errorf("list %d of %q, %d, %d: %q, not %q", i, shown(s), day, mask, got, lists[i])
			}
		}
		for _, name := range must {
			if !slices.Contains(may, name) {
				t.Errorf("%q must, and may not", name)
			}
		}
	}
}
