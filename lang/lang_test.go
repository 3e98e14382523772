package lang_test

import (
	"slices"
	"strings"
	"testing"

	"bosket/api"
	"bosket/lang"
)

// P10.2: plain languages, and the example.
func TestShortest(t *testing.T) {
	for _, c := range []struct {
		text, want string
	}{
		{"a|bc", "a"}, // the example
		{"bc|a", "a"},
		{"bc|ad", "ad"},
		{"~", ""},
		{"a*", ""},
		{"a+", "a"},
		{"z|y|x", "x"},
		{"ab|aa|b[a-c]", "aa"},
		{"aab|aba|baa", "aab"},
		{"(a|b)*bbb", "bbb"},
		{"b[a-z]a|a[b-z]z|a[b-z]y", "aby"},
		{"[^a-z]", "\x00"},
		{"[\\x80-\\xff]|[c-\\x7f]", "c"},
		{"[\\x80-\\xff]|c[a-z]", "\x80"},
		{"\\xff\\x00|\\xfe\\xff|\\xfe\\xfe", "\xfe\xfe"},
	} {
		d := of(t, c.text)
		if s, is := lang.Shortest(d); s != c.want || !is {
			t.Errorf("%q, %t for %s", s, is, c.text)
		}
		if lang.Empty(d) {
			t.Errorf("%s is empty", c.text)
		}
	}
}

// P10.2: byte order is that of the bytes, not that of the numbers of classes or states.
func TestShortestIsByBytes(t *testing.T) {
	d := api.DFA{Next: rows{{1, 2, 3}, {-1, -1, -1}, {-1, -1, -1}, {-1, -1, -1}}, Mark: []int{-1, 0, 0, 0}}
	for b := range 256 {
		d.Class[b] = 0 // the bytes from 8 on
	}
	for b := range 8 {
		d.Class[b] = uint8(1 + b%2) // 1 for 0, 2, 4, 6, and 2 for 1, 3, 5, 7
	}
	for _, c := range []struct {
		marks []int
		want  string
	}{
		{[]int{0, 0, 0, 0}, ""},
		{[]int{-1, 0, 0, 0}, "\x00"},
		{[]int{-1, 0, -1, 0}, "\x01"},
		{[]int{-1, 0, -1, -1}, "\x08"},
		{[]int{-1, -1, -1, 9}, "\x01"},
	} {
		d.Mark = c.marks
		if s, is := lang.Shortest(d); s != c.want || !is {
			t.Errorf("%q, %t for the marks %v, want %q", s, is, c.marks, c.want)
		}
	}
	// the first byte decides: by the greater class, and the greater state
	d = api.DFA{Class: flipped(classes("a")), Next: rows{{2, 1}, {3, -1}, {-1, 3}, {-1, -1}}, Mark: []int{-1, -1, -1, 4}}
	if s, is := lang.Shortest(d); s != "\x00a" || !is {
		t.Errorf("%q, %t", s, is)
	}
	// two states are met in another order than their numbers tell
	d = plain(rows{{-1, 2, 1}, {-1, 3, -1}, {-1, -1, 3}, {-1, -1, -1}}, -1, -1, -1, 4)
	if s, is := lang.Shortest(d); s != "ab" || !is {
		t.Errorf("%q, %t", s, is)
	}
}

// P10.2: nothing is accepted: no mark is reached, or Right does not hold.
func TestShortestOfNothing(t *testing.T) {
	l := []api.DFA{
		plain(rows{{-1, -1, -1}}, -1),
		plain(rows{{0, 0, 0}}, -1),
		plain(rows{{1, 0, 1}, {0, 0, 1}}, -1, -1),
		plain(rows{{-1, 0, -1}, {-1, 0, -1}}, -1, 7), // a mark that is not reached
	}
	for _, f := range faults() {
		l = append(l, f.d)
	}
	for _, d := range l {
		if s, is := lang.Shortest(d); s != "" || is {
			t.Errorf("%q, %t for %s", s, is, told(d))
		}
		if !lang.Empty(d) {
			t.Errorf("not empty: %s", told(d))
		}
	}
}

// P10.2: all small automata and bigger ones, against a model.
func TestShortestAgainstAModel(t *testing.T) {
	l := small("a")
	for d := range bigger(5) {
		l = append(l, d)
	}
	l = slices.AppendSeq(l, sized(3, classes("a")))
	for _, d := range l {
		want, is := shortest(d)
		if s, got := lang.Shortest(d); s != want || got != is {
			t.Fatalf("%q, %t, want %q, %t, for %s", s, got, want, is, told(d))
		}
		if lang.Empty(d) == is {
			t.Fatalf("Empty is %t for %s", is, told(d))
		}
	}
}

// P10.2: long strings.
func TestShortestOfChains(t *testing.T) {
	for _, n := range []int{1, 2, 3, 100, 1 << 15} {
		d := chain(n)
		if s, is := lang.Shortest(d); s != strings.Repeat("\x00", n-1) || !is || lang.Empty(d) {
			t.Errorf("%s, %t for %d states", short(s), is, n)
		}
		d = only("\xff", d)
		if s, is := lang.Shortest(d); s != strings.Repeat("\xff", n-1) || !is {
			t.Errorf("%s, %t for %d states", short(s), is, n)
		}
	}
}

// A comparison is what Equal or Within are to return.
type comparison struct {
	is  bool
	s   string
	err api.Errno
}

func equalOf(a, b api.DFA) comparison {
	is, s, err := lang.Equal(a, b)
	return comparison{is, s, err}
}

func withinOf(a, b api.DFA) comparison {
	is, s, err := lang.Within(a, b)
	return comparison{is, s, err}
}

// P10.2: plain languages.
func TestEqualAndWithin(t *testing.T) {
	same := comparison{true, "", api.OK}
	not := func(s string) comparison { return comparison{false, s, api.OK} }
	for _, c := range []struct {
		a, b               string
		equal, there, back comparison
	}{
		{"a*", "~|aa*", same, same, same},
		{"(a|b)*", "(a*b*)*", same, same, same},
		{"a", "b", not("a"), not("a"), not("b")},
		{"b", "a", not("a"), not("b"), not("a")},
		{"a*", "a+", not(""), not(""), same},
		{"a*", "~|a|aaa*", same, same, same},
		{"a*", "~|a|aaaa*", not("aa"), not("aa"), same},
		{"[ab]+", "a+b*", not("b"), not("b"), same},
		{"a+b*", "[ab]+", not("b"), same, not("b")},
		{"ab|b", "ab|c", not("b"), not("b"), not("c")},
		{"bbb|d", "cc|d", not("cc"), not("bbb"), not("cc")},
		{"[a-z]+", "[a-y]+", not("z"), not("z"), same},
		{"[\\x00-\\xff]", "[^\\xff]", not("\xff"), not("\xff"), same},
	} {
		a, b := of(t, c.a), of(t, c.b)
		if got := equalOf(a, b); got != c.equal {
			t.Errorf("Equal of %s and %s: %v", c.a, c.b, got)
		}
		if got := equalOf(b, a); got != c.equal {
			t.Errorf("Equal of %s and %s: %v", c.b, c.a, got)
		}
		if got := withinOf(a, b); got != c.there {
			t.Errorf("Within of %s and %s: %v", c.a, c.b, got)
		}
		if got := withinOf(b, a); got != c.back {
			t.Errorf("Within of %s and %s: %v", c.b, c.a, got)
		}
	}
}

// P10.2: which mark a string has does not matter.
func TestEqualWithOtherMarks(t *testing.T) {
	a, b := plain(rows{{-1, 1, 0}, {-1, 0, 1}}, 2, 3), plain(rows{{-1, 0, 0}}, 1<<15-1)
	if got := equalOf(a, b); got != (comparison{true, "", api.OK}) {
		t.Error(got)
	}
	if got := withinOf(a, b); got != (comparison{true, "", api.OK}) {
		t.Error(got)
	}
}

// P10.2: the errors of Pair, with false and without a string.
func TestEqualAndWithinOfWrongArguments(t *testing.T) {
	check := func(a, b api.DFA, want api.Errno, what string) {
		t.Helper()
		if got := equalOf(a, b); got != (comparison{false, "", want}) {
			t.Errorf("Equal with %s: %v", what, got)
		}
		if got := withinOf(a, b); got != (comparison{false, "", want}) {
			t.Errorf("Within with %s: %v", what, got)
		}
	}
	for _, f := range faults() {
		check(f.d, good(), api.ErrArg, f.what)
		check(good(), f.d, api.ErrArg, f.what)
		check(f.d, f.d, api.ErrArg, f.what)
		check(f.d, chain(2001), api.ErrArg, f.what)
	}
	check(chain(2001), chain(2001), api.ErrBig, "2001 states")
	check(ring(29), ring(69), api.ErrBig, "2001 pairs")
	check(chain(1), chain(2001), api.ErrBig, "2001 states of the second one") // though it is not equal by the empty string
	check(chain(2001), chain(1), api.ErrBig, "2001 states of the first one")
	check(only("a", chain(1001)), only("b", chain(1001)), api.ErrBig, "2001 states of one or the other")
}

// P10.2: as many pairs as there may be.
func TestEqualAndWithinOfManyPairs(t *testing.T) {
	a, b := ring(16), ring(125)
	if got := equalOf(a, b); got != (comparison{false, strings.Repeat("\x00", 16), api.OK}) {
		t.Errorf("%t, %s, %d", got.is, short(got.s), got.err)
	}
	if got := withinOf(b, a); got != (comparison{false, strings.Repeat("\x00", 125), api.OK}) {
		t.Errorf("%t, %s, %d", got.is, short(got.s), got.err)
	}
	if got := withinOf(ring(2000), ring(1000)); got != (comparison{true, "", api.OK}) {
		t.Errorf("%t, %s, %d", got.is, short(got.s), got.err)
	}
	if got := withinOf(ring(1000), ring(2000)); got != (comparison{false, strings.Repeat("\x00", 1000), api.OK}) {
		t.Errorf("%t, %s, %d", got.is, short(got.s), got.err)
	}
}

// compared returns what Equal or Within are to return, by a search through both automata for the shortest strings of a way.
func compared(how int, a, b api.DFA) comparison {
	type state = [2]int
	l := map[state]string{{0, 0}: ""}
	bytes := letters(a, b)
	for range (len(a.Next) + 1) * (len(b.Next) + 1) {
		var found []string
		longer := map[state]string{}
		for at, s := range l {
			if wanted(how, marked(a, at[0]), marked(b, at[1])) {
				found = append(found, s)
			}
			for _, c := range bytes {
				to, text := state{entry(a, at[0], c), entry(b, at[1], c)}, s+string([]byte{c})
				if first, known := longer[to]; !known || text < first {
					longer[to] = text
				}
			}
		}
		if len(found) > 0 {
			return comparison{false, slices.Min(found), api.OK}
		}
		l = longer
	}
	return comparison{true, "", api.OK}
}

// P10.2, P10.4: two automata are Equal exactly if each is Within the other, and the strings are those that a search finds.
func TestEqualAndWithinAgainstAModel(t *testing.T) {
	check := func(a, b api.DFA) {
		equal, there, back := equalOf(a, b), withinOf(a, b), withinOf(b, a)
		if want := compared(lang.Xor, a, b); equal != want {
			t.Fatalf("Equal: %v, want %v, of %s and %s", equal, want, told(a), told(b))
		}
		if want := compared(lang.Less, a, b); there != want {
			t.Fatalf("Within: %v, want %v, of %s and %s", there, want, told(a), told(b))
		}
		if want := compared(lang.Less, b, a); back != want {
			t.Fatalf("Within: %v, want %v, of %s and %s", back, want, told(b), told(a))
		}
		if equal.is != (there.is && back.is) {
			t.Fatalf("Equal %v, but Within %v and %v, of %s and %s", equal, there, back, told(a), told(b))
		}
	}
	for i, a := range small("a") {
		for j, b := range small("ab") {
			if (i+3*j)%67 == 0 {
				check(a, b)
			}
		}
	}
	others := slices.Collect(bigger(2))
	i := 0
	for a := range bigger(3) {
		if i++; i%8 == 0 && len(a.Next)+len(others[i-1].Next) < 25 {
			check(a, others[i-1])
			check(a, a)
		}
	}
}

// P10.4: Equal and Within have the same errors.
func TestEqualExactlyIfEachIsWithinTheOther(t *testing.T) {
	l := []api.DFA{ring(1), ring(16), ring(125), ring(29), ring(69), chain(1), chain(2000), chain(2001), only("a", chain(1001)), only("b", chain(1000)), good(), {}}
	for _, a := range l {
		for _, b := range l {
			equal, there, back := equalOf(a, b), withinOf(a, b), withinOf(b, a)
			if equal.err != there.err || equal.err != back.err || equal.is != (there.is && back.is) {
				t.Errorf("Equal %v, Within %v and %v, of %s and %s", equal, there, back, told(a), told(b))
			}
		}
	}
}
