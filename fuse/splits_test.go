package fuse_test

import (
	"slices"
	"strings"
	"testing"

	"bosket/fuse"
)

// The rules of most tests: blanks are 3, comments 4.
var common = []string{"[a-z]+", "=", "==", "[ \\n]+", "#[^\\n]*", "[0-9]+(\\.[0-9]+)?"}

// P15.1: strings of tokens, with blanks between them or not.
func TestSplits(t *testing.T) {
	d := machine(t, common...)
	for _, c := range []struct {
		s     string
		texts []string
	}{
		{"a b", []string{"a", "b"}}, {"ab", []string{"ab"}}, {"a=b", []string{"a", "=", "b"}}, {" a\n = b ", []string{"a", "=", "b"}},
		{"a==", []string{"a", "=="}}, {"a= =", []string{"a", "=", "="}}, {"===", []string{"==", "="}}, {"a a a", []string{"a", "a", "a"}},
		{"1.5", []string{"1.5"}}, {"1 5a", []string{"1", "5", "a"}}, {"", nil}, {" ", nil}, {"\n \n", []string{}}, {"a #b\nc", []string{"a", "#b", "c"}},
	} {
		if !fuse.Splits(d, 3, c.s, c.texts) {
			t.Errorf("%q is not split into %q", c.s, c.texts)
		}
	}
}

// P15.1: other texts, more or fewer of them, or in another order.
func TestSplitsNot(t *testing.T) {
	d := machine(t, common...)
	for _, c := range []struct {
		s     string
		texts []string
	}{
		{"a b", []string{"a", "c"}}, {"a b", []string{"b", "a"}}, {"a b", []string{"a"}}, {"a b", []string{"b"}}, {"a b", []string{"a", "b", "c"}}, {"a b", nil},
		{"a b", []string{"a", " ", "b"}}, {"a b", []string{"a", "b", ""}}, {"a b", []string{"", "a", "b"}}, {"a b", []string{"a", "", "b"}}, {"a b", []string{"a b"}},
		{"ab", []string{"a", "b"}}, {"a==", []string{"a", "=", "="}}, {"===", []string{"=", "=="}}, {"", []string{""}}, {"", []string{"a"}}, {" ", []string{" "}},
		{" ", []string{""}}, {"a", []string{"A"}}, {"a#b c", []string{"a", "#b", "c"}}, {"a #b\nc", []string{"a", "c"}},
	} {
		if fuse.Splits(d, 3, c.s, c.texts) {
			t.Errorf("%q is split into %q", c.s, c.texts)
		}
	}
}

// P15.1: a string that does not consist of tokens only is split into nothing, the tokens ahead of what is none neither.
func TestSplitsOfWhatIsNoToken(t *testing.T) {
	d := machine(t, common...)
	for _, s := range []string{"a!", "a !b", "!", "a 1.", "a 1. b", "a\tb", "a\x00", "a \u00e9", "a b~"} {
		for _, l := range lists([]string{"a", "b", "1", "!"}, 3) {
			if fuse.Splits(d, 3, s, l) {
				t.Errorf("%q is split into %q", s, l)
			}
		}
	}
}

// P15.1: only tokens of the rule for blanks are left out, whatever rule that is and whatever bytes they have.
func TestSplitsByTheRuleForBlanks(t *testing.T) {
	d := machine(t, common...)
	for blank, want := range [][]string{{" ", "=", "#c"}, {"a", " ", "b", "#c"}, {"a", " ", "b", "=", "#c"}, {"a", "b", "=", "#c"}, {"a", " ", "b", "="}} {
		if !fuse.Splits(d, blank, "a b=#c", want) {
			t.Errorf("rule %d: not split into %q", blank, want)
		}
	}
	for _, blank := range outside(len(common)) { // no rule: nothing is left out
		if fuse.Splits(d, blank, "a b", []string{"a", "b"}) || !fuse.Splits(d, blank, "a b", []string{"a", " ", "b"}) {
			t.Errorf("rule %d", blank)
		}
	}
	d = machine(t, " ", " +|\\n") // one blank is of the rule 0, more are of the rule 1
	if !fuse.Splits(d, 0, "  \n \n", []string{"  ", "\n", "\n"}) || !fuse.Splits(d, 1, "  \n \n", []string{" "}) {
		t.Error("two rules for blanks")
	}
}

// P15.1: MaxText bytes are permitted, and one more is not, since it is not split into tokens then.
func TestSplitsAtTheBound(t *testing.T) {
	d := machine(t, "a+", "[bc]", " +")
	for _, c := range []struct {
		s     string
		texts []string
		want  bool
	}{
		{strings.Repeat("a", 65536), []string{strings.Repeat("a", 65536)}, true},
		{strings.Repeat("a", 65537), []string{strings.Repeat("a", 65537)}, false},
		{strings.Repeat("b", 65536), slices.Repeat([]string{"b"}, 65536), true},
		{strings.Repeat("b", 65536), slices.Repeat([]string{"b"}, 65535), false},
		{strings.Repeat("b", 65537), slices.Repeat([]string{"b"}, 65537), false},
		{strings.Repeat("b", 65537), nil, false},
		{strings.Repeat(" ", 65536), nil, true},
		{strings.Repeat(" ", 65537), nil, false},
		{strings.Repeat("b ", 32768), slices.Repeat([]string{"b"}, 32768), true},
		{strings.Repeat("b ", 32768) + "b", slices.Repeat([]string{"b"}, 32769), false},
	} {
		if got := fuse.Splits(d, 2, c.s, c.texts); got != c.want {
			t.Errorf("%d bytes, %.5q, into %d texts: %v", len(c.s), c.s, len(c.texts), got)
		}
	}
}

// P15.1: all short strings and many longer ones, with the texts as they are and with others.
func TestSplitsOfAllStrings(t *testing.T) {
	x := source(3)
	for _, regexes := range [][]string{{" ", "a", "aa", "ab"}, {" +", "a+", "b"}, {"b", "a", " a?"}, {"a b", "a", " ", "b"}, {"[ab]", " *a"}, {" ", "a(ba)*", "b b"}} {
		d := machine(t, regexes...)
		all := texts("ab ", 6)
		for range 500 {
			all = append(all, x.text("ab ", 40))
		}
		some := lists([]string{"", "a", "ab", " ", "b"}, 2)
		for _, s := range all {
			for blank := -1; blank < len(regexes)+1; blank++ {
				if l, whole := read(d, blank, s); fuse.Splits(d, blank, s, l) != whole {
					t.Fatalf("%q, blanks %d: %q is split into %q: %v", regexes, blank, s, l, !whole)
				}
				for _, l := range some {
					if got, want := fuse.Splits(d, blank, s, l), split(d, blank, s, l); got != want {
						t.Fatalf("%q, blanks %d: %q is split into %q: %v", regexes, blank, s, l, got)
					}
				}
			}
		}
	}
}

// P15.1: two texts of which the first one is the longest token where both begin, and the second one is a token.
func TestTwo(t *testing.T) {
	d := machine(t, common...)
	for _, c := range []struct {
		a, b string
		want bool
	}{
		{"a", "=", true}, {"=", "a", true}, {"a", "b", false}, {"=", "=", false}, {"==", "=", true}, {"=", "==", false}, {"==", "==", true},
		{"a", " ", true}, {" ", "a", true}, {" ", " ", false}, {"a", "1", true}, {"1", "a", true}, {"1", "2", false}, {"1.5", "a", true},
		{"#a", "b", false}, {"#a", "\n", true}, {"#a", " ", false}, {"a", "#a", true}, {"a", "#a\n", false},
	} {
		if got := fuse.Two(d, c.a, c.b); got != c.want {
			t.Errorf("%q and %q: %v", c.a, c.b, got)
		}
	}
}

// P15.1: texts of which one is no token, or not one as a whole.
func TestTwoOfWhatIsNoToken(t *testing.T) {
	d := machine(t, common...)
	for _, c := range [][2]string{
		{"a=", "="}, {"a=", "b"}, {"a ", "b"}, {"!", "a"}, {"a", "!"}, {"a", "=b"}, {"a", "= "}, {"a", "=!"}, {"=", "a!"}, {"a!", "a"}, {"1.", "a"}, {"a", "1."}, {"1", "."}, {"1", ".5"}, {"!", "!"},
	} {
		if fuse.Two(d, c[0], c[1]) {
			t.Errorf("%q and %q", c[0], c[1])
		}
	}
}

// P15.1: no token begins with the empty text, or with one that is no token: then no byte is covered, which is all of the empty text.
func TestTwoOfEmptyTexts(t *testing.T) {
	d := machine(t, common...)
	for _, c := range []struct {
		a, b string
		want bool
	}{{"a", "", true}, {" ", "", true}, {"", "", true}, {"a=", "", false}, {"!", "", false}, {"1.", "", false}, {"", "a", false}, {"", "!", false}, {"", " ", false}, {"", "a=", false}} {
		if got := fuse.Two(d, c.a, c.b); got != c.want {
			t.Errorf("%q and %q: %v", c.a, c.b, got)
		}
	}
	marked := blanked(rows{{-1, 0, -1, -1}}, 0) // the empty string has a mark, and is no token all the same
	if !fuse.Two(marked, " ", "") || !fuse.Two(marked, "", "") || fuse.Two(marked, "", " ") || fuse.Two(marked, "", "a") || fuse.Two(marked, " ", " ") {
		t.Error("the empty string with a mark")
	}
}

// P15.1: only the bytes that both texts have count, and a token of both may go on behind the end of the first one in vain.
func TestTwoOfTokensThatGoOn(t *testing.T) {
	d := machine(t, "a", "ab+c", "b+", "c")
	for _, c := range []struct {
		a, b string
		want bool
	}{{"a", "b", true}, {"a", "bbbb", true}, {"a", "bc", false}, {"abc", "c", true}, {"abc", "b", true}, {"a", "a", true}, {"b", "b", false}, {"ab", "c", false}, {"ab", "b", false}} {
		if got := fuse.Two(d, c.a, c.b); got != c.want {
			t.Errorf("%q and %q: %v", c.a, c.b, got)
		}
	}
}

// P15.1: all pairs of short texts.
func TestTwoOfAllTexts(t *testing.T) {
	for _, regexes := range [][]string{{" ", "a", "aa", "ab"}, {" +", "a+", "b"}, {"a b", "a", " ", "b"}, {"[ab]", "ab*a"}, {" ", "a(ba)*", "b b"}, {"aab|a", "b"}} {
		d := machine(t, regexes...)
		all := texts("ab ", 4)
		for _, a := range all {
			for _, b := range all {
				first, _ := longest(d, a+b)
				second, _ := longest(d, b)
				if got, want := fuse.Two(d, a, b), first == a && second == b; got != want {
					t.Fatalf("%q: %q and %q: %v", regexes, a, b, got)
				}
			}
		}
	}
}

// P15.1: Two does not bound its texts.
func TestTwoOfLongTexts(t *testing.T) {
	d := machine(t, "a+", "b+")
	a, b := strings.Repeat("a", 1<<18), strings.Repeat("b", 1<<18)
	if !fuse.Two(d, a, b) || !fuse.Two(d, b, a) || fuse.Two(d, a, a) || fuse.Two(d, a, b+a) || fuse.Two(d, a+b, a) {
		t.Error("long texts")
	}
}
