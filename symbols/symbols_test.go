package symbols_test

import (
	"fmt"
	"math"
	"slices"
	"strings"
	"testing"

	"bosket/api"
	"bosket/escape"
	"bosket/symbols"
)

// made returns a table to which names were added one by one.
func made(t *testing.T, names ...string) *symbols.Table {
	t.Helper()
	x := symbols.New()
	if x == nil {
		t.Fatal("New: nil")
	}
	for want, name := range names {
		if n, err := x.Add(name); n != want || err != api.OK {
			t.Fatalf("Add(%q): %d, %d, want %d, OK", name, n, err, want)
		}
	}
	return x
}

// holds checks everything that can be told of a table with these names.
func holds(t *testing.T, x *symbols.Table, names ...string) {
	t.Helper()
	if x.Len() != len(names) {
		t.Errorf("Len: %d, want %d", x.Len(), len(names))
	}
	if got := x.Names(); !slices.Equal(got, names) {
		t.Errorf("Names: %q, want %q", got, names)
	}
	for n, name := range names {
		if got := x.Name(n); got != name {
			t.Errorf("Name(%d): %q, want %q", n, got, name)
		}
		if got := x.Find(name); got != n {
			t.Errorf("Find(%q): %d, want %d", name, got, n)
		}
	}
	for _, n := range []int{math.MinInt, -1 << 32, -300, -2, -1, len(names), len(names) + 1, 299 + len(names), 300 + len(names), 1 << 32, math.MaxInt} {
		if got := x.Name(n); got != "" {
			t.Errorf("Name(%d) of %d names: %q", n, len(names), got)
		}
	}
}

// several returns so many names, none of them twice.
func several(count int) []string {
	var l []string
	for i := range count {
		l = append(l, fmt.Sprintf("n%d", i))
	}
	return l
}

// noNames are texts that are no names.
func noNames() []string {
	return []string{
		"", "0", "9a", "0_", " ", " a", "a ", "a b", "a\n", "\na", "a-b", "-", "a.b", "a'", "@", "a[", "`", "a{", "a/", "a:",
		"é", "aé", "a\x00", "\x00", "a\x7f", "\xff", "a\xff", `a\`, `"a"`, strings.Repeat("a", 41), strings.Repeat("a", 100), strings.Repeat("é", 20), strings.Repeat("a", api.MaxText),
	}
}

// P16.1: New.

func TestNewReturnsAnEmptyTable(t *testing.T) {
	x := made(t)
	holds(t, x)
	for _, name := range append(noNames(), "a", "_", "New") {
		if n := x.Find(name); n != -1 {
			t.Errorf("Find(%q) in an empty table: %d", name, n)
		}
	}
}

// P16.1: Add.

func TestAddNumbersFromZero(t *testing.T) {
	names := []string{"b", "a", "_", "B", "b9", "A_z", "a0", "__", strings.Repeat("z", 40), "c"}
	x := symbols.New()
	for want, name := range names {
		if n, err := x.Add(name); n != want || err != api.OK {
			t.Errorf("Add(%q): %d, %d, want %d, OK", name, n, err, want)
		}
		holds(t, x, names[:want+1]...)
	}
}

func TestAddRefusesWhatIsNoName(t *testing.T) {
	for _, names := range [][]string{nil, {"a"}, {"a", "b", "c"}, several(300)} { // a full table too: ErrName stands ahead of ErrBig
		x := made(t, names...)
		for _, name := range noNames() {
			if n, err := x.Add(name); n != 0 || err != api.ErrName {
				t.Errorf("Add(%q) to %d names: %d, %d, want 0, ErrName", name, len(names), n, err)
			}
			if n := x.Find(name); n != -1 {
				t.Errorf("Find(%q): %d", name, n)
			}
		}
		holds(t, x, names...)
	}
}

// Every byte in the first place of a name, in the last one, and between them.
func TestAddAgreesWithEscapeOnNames(t *testing.T) {
	for b := range 256 {
		for _, length := range []int{1, 2, 3, 40, 41} {
			for _, at := range []int{0, length / 2, length - 1} {
				l := []byte(strings.Repeat("x", length))
				l[at] = byte(b)
				want := api.OK
				if !escape.Name(string(l)) {
					want = api.ErrName
				}
				if n, err := symbols.New().Add(string(l)); n != 0 || err != want {
					t.Errorf("Add(%q): %d, %d, want 0, %d", l, n, err, want)
				}
			}
		}
	}
}

func TestAddOfANameThatExists(t *testing.T) {
	for _, count := range []int{1, 2, 3, 299, 300} { // a full table too: ErrTwice stands ahead of ErrBig
		names := several(count)
		x := made(t, names...)
		for range 2 {
			for want, name := range names {
				if n, err := x.Add(name); n != want || err != api.ErrTwice {
					t.Errorf("Add(%q) to %d names: %d, %d, want %d, ErrTwice", name, count, n, err, want)
				}
			}
		}
		holds(t, x, names...)
	}
}

// Names that differ in one byte only, or of which one begins with the other one, are two.
func TestNamesThatAreAlike(t *testing.T) {
	long := strings.Repeat("a", 39)
	holds(t, made(t, "ab", "Ab", "aB", "AB", "a", "abc", "b", "ab_", "_ab", "ab0", "ab1", long, long+"a", long+"b", "b"+long),
		"ab", "Ab", "aB", "AB", "a", "abc", "b", "ab_", "_ab", "ab0", "ab1", long, long+"a", long+"b", "b"+long)
}

func TestAddToAFullTable(t *testing.T) {
	names := several(300)
	x := made(t, names...)
	for _, name := range []string{"a", "n300", "n", "N0", "_"} {
		for range 2 {
			if n, err := x.Add(name); n != 0 || err != api.ErrBig {
				t.Errorf("Add(%q) to 300 names: %d, %d, want 0, ErrBig", name, n, err)
			}
			if n := x.Find(name); n != -1 {
				t.Errorf("Find(%q): %d", name, n)
			}
		}
	}
	holds(t, x, names...)
}

// The table is full at 300 names, not at as many calls.
func TestRefusedNamesDoNotFillTheTable(t *testing.T) {
	names := several(300)
	x := symbols.New()
	for i, name := range names {
		x.Add("9")
		x.Add(names[0])
		x.Add(names[i/2])
		x.Add(name)
	}
	holds(t, x, names...)
}

// P16.1: Find, Name, Len, Names.

func TestFindOfNamesThatAreNotThere(t *testing.T) {
	x := made(t, "one", "two", "three")
	for _, name := range append(noNames(), "On", "One", "onee", "on", "o", "ne", "tw", "wo", "onetwo", "four", "one ", " one") {
		if n := x.Find(name); n != -1 {
			t.Errorf("Find(%q): %d", name, n)
		}
	}
	holds(t, x, "one", "two", "three")
}

func TestFindDoesNotAdd(t *testing.T) {
	x := made(t, "a")
	x.Find("b")
	holds(t, x, "a")
	if n, err := x.Add("b"); n != 1 || err != api.OK {
		t.Errorf("Add(b): %d, %d, want 1, OK", n, err)
	}
}

// P16.1: Of.

func TestOf(t *testing.T) {
	for _, names := range [][]string{nil, {"a"}, {"b", "a"}, {"E", "T", "F", "_", "e"}, several(299), several(300)} {
		x, n, err := symbols.Of(names...)
		if x == nil || n != len(names) || err != api.OK {
			t.Fatalf("Of(%q): %v, %d, %d", names, x, n, err)
		}
		holds(t, x, names...)
	}
}

func TestOfTellsOfTheFirstError(t *testing.T) {
	full := several(300)
	behind := func(names ...string) []string { return slices.Concat(full, names) }
	for _, c := range []struct {
		what  string
		names []string
		at    int
		err   api.Errno
	}{
		{"no name alone", []string{""}, 0, api.ErrName},
		{"no name as the first", []string{"9", "a", "a"}, 0, api.ErrName},
		{"no name as the last", []string{"a", "b", "c-d"}, 2, api.ErrName},
		{"a long one between others", []string{"a", strings.Repeat("b", 41), "c"}, 1, api.ErrName},
		{"the first again at once", []string{"a", "a"}, 1, api.ErrTwice},
		{"the first again", []string{"a", "b", "a"}, 2, api.ErrTwice},
		{"another one again", []string{"a", "b", "c", "b", "d"}, 3, api.ErrTwice},
		{"twice, then no name", []string{"a", "a", "9"}, 1, api.ErrTwice},
		{"no name, then twice", []string{"a", "9", "a"}, 1, api.ErrName},
		{"no name twice", []string{"a", "9", "9"}, 1, api.ErrName},
		{"two that are there twice", []string{"a", "b", "b", "a"}, 2, api.ErrTwice},
		{"one too many", behind("a"), 300, api.ErrBig},
		{"many too many", behind(several(700)[300:]...), 300, api.ErrBig},
		{"too many, the last one no name", behind("9"), 300, api.ErrName},
		{"too many, the last one there", behind("n7"), 300, api.ErrTwice},
		{"too many, no name behind that", behind("a", "9"), 300, api.ErrBig},
		{"too many, no name far ahead", append([]string{""}, full...), 0, api.ErrName},
		{"too many, one twice far ahead", slices.Concat(full[:2], full), 2, api.ErrTwice},
	} {
		if x, at, err := symbols.Of(c.names...); x != nil || at != c.at || err != c.err {
			t.Errorf("%s: %v, %d, %d, want nil, %d, %d", c.what, x, at, err, c.at, c.err)
		}
	}
}

// A table that Of returned takes further names.
func TestAddToATableOfNames(t *testing.T) {
	x, _, _ := symbols.Of("a", "b")
	if n, err := x.Add("c"); n != 2 || err != api.OK {
		t.Errorf("Add(c): %d, %d, want 2, OK", n, err)
	}
	if n, err := x.Add("b"); n != 1 || err != api.ErrTwice {
		t.Errorf("Add(b): %d, %d, want 1, ErrTwice", n, err)
	}
	holds(t, x, "a", "b", "c")
	y, _, _ := symbols.Of(several(300)...)
	if n, err := y.Add("a"); n != 0 || err != api.ErrBig {
		t.Errorf("Add(a): %d, %d, want 0, ErrBig", n, err)
	}
	holds(t, y, several(300)...)
}

// P16.2.

func TestTheNumberOfANameNeverChanges(t *testing.T) {
	names := several(300)
	x := symbols.New()
	for i, name := range names {
		x.Add(name)
		x.Add(names[i/3])
		x.Add("no name")
		x.Find("elsewhere")
		holds(t, x, names[:i+1]...)
	}
	for range 400 {
		x.Add("more")
		x.Add("n299")
	}
	holds(t, x, names...)
}

// The example.

func TestExample(t *testing.T) {
	x := symbols.New()
	if n, err := x.Add("a"); n != 0 || err != 0 {
		t.Errorf("Add(a): %d, %d, want 0, 0", n, err)
	}
	if n, err := x.Add("a"); n != 0 || err != 9 {
		t.Errorf("Add(a) again: %d, %d, want 0, 9", n, err)
	}
}
