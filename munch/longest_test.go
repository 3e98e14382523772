package munch_test

import (
	"strings"
	"testing"

	"bosket/munch"
)

// P12.1: the longest prefix that has a mark, not the first one, nor the longest one that leads somewhere.
func TestLongest(t *testing.T) {
	for _, c := range []struct {
		regexes      []string
		s            string
		at           int
		mark, length int
	}{
		{[]string{"if", "[a-z]+"}, "if", 0, 0, 2},
		{[]string{"if", "[a-z]+"}, "ifs", 0, 1, 3},
		{[]string{"if", "[a-z]+"}, "if s", 0, 0, 2},
		{[]string{"if", "[a-z]+"}, "i", 0, 1, 1},
		{[]string{"if", "[a-z]+"}, "xif", 1, 0, 2},
		{[]string{"if", "[a-z]+"}, "xif", 2, 1, 1},
		{[]string{"if", "[a-z]+"}, "xif", 3, -1, 0},
		{[]string{"if", "[a-z]+"}, " if", 0, -1, 0},
		{[]string{"if", "[a-z]+"}, "", 0, -1, 0},
		{[]string{"a", "abcd"}, "abcd", 0, 1, 4},
		{[]string{"a", "abcd"}, "abc", 0, 0, 1},
		{[]string{"a", "abcd"}, "abce", 0, 0, 1},
		{[]string{"a", "abcd"}, "bcd", 0, -1, 0},
		{[]string{"abcd"}, "abc", 0, -1, 0},
		{[]string{"ab", "a", "abc"}, "abc", 0, 2, 3},
		{[]string{"[0-9]+(\\.[0-9]+)?", "\\.\\."}, "1..2", 0, 0, 1},
		{[]string{"[0-9]+(\\.[0-9]+)?", "\\.\\."}, "1..2", 1, 1, 2},
		{[]string{"[0-9]+(\\.[0-9]+)?", "\\.\\."}, "1..2", 2, -1, 0},
		{[]string{"[0-9]+(\\.[0-9]+)?", "\\.\\."}, "1.25.", 0, 0, 4},
		{[]string{"\\x00\\xff", "[\\x80-\\xff]"}, "\x00\xff\xff", 0, 0, 2},
		{[]string{"\\x00\\xff", "[\\x80-\\xff]"}, "\x00\xff\xff", 1, 1, 1},
		{[]string{"[\\x80-\\xff]+"}, "\u00e9", 0, 0, 2}, // bytes, not runes
		{[]string{"[\\x80-\\xff]+"}, "\u00e9", 1, 0, 1},
	} {
		d := machine(t, c.regexes...)
		if mark, length := munch.Longest(d, c.s, c.at); mark != c.mark || length != c.length {
			t.Errorf("%q: Longest of %q at %d: %d, %d, want %d, %d", c.regexes, c.s, c.at, mark, length, c.mark, c.length)
		}
		checkLongest(t, d, c.s, c.at)
	}
}

// P12.1: the empty prefix is never the longest one, even if it has a mark.
func TestTheEmptyPrefixDoesNotCount(t *testing.T) {
	d := plain(rows{{-1, 1, 0}, {-1, -1, 0}}, 5, -1)
	for _, c := range []struct {
		s                   string
		mark, length, alone int
	}{
		{"", -1, 0, -1}, {"x", -1, 0, -1}, {"a", -1, 0, -1}, {"ax", -1, 0, -1}, {"aa", -1, 0, -1},
		{"b", 5, 1, 5}, {"ba", 5, 1, -1}, {"ab", 5, 2, 5}, {"bbabab", 5, 6, 5}, {"bbx", 5, 2, -1},
	} {
		if mark, length := munch.Longest(d, c.s, 0); mark != c.mark || length != c.length {
			t.Errorf("Longest of %q: %d, %d, want %d, %d", c.s, mark, length, c.mark, c.length)
		}
		if got := munch.Alone(d, c.s); got != c.alone {
			t.Errorf("Alone of %q: %d, want %d", c.s, got, c.alone)
		}
	}
}

// P12.1: an index that does not exist, and the one behind the last byte.
func TestIndicesThatDoNotExist(t *testing.T) {
	d := machine(t, "[a-z]+")
	for _, s := range []string{"", "a", "abc", "abc def", "  "} {
		for _, at := range append(outside(len(s)), len(s)) {
			if mark, length := munch.Longest(d, s, at); mark != -1 || length != 0 {
				t.Errorf("Longest of %q at %d: %d, %d", s, at, mark, length)
			}
			if got := munch.Sure(d, s, at); got != len(s) {
				t.Errorf("Sure of %q at %d: %d", s, at, got)
			}
		}
	}
}

// P12.1: a text that is one token as a whole.
func TestAlone(t *testing.T) {
	d := machine(t, "if", "[a-z]+", "a b", "[0-9]+(\\.[0-9]+)?")
	for s, want := range map[string]int{
		"if": 0, "i": 1, "ifs": 1, "a b": 2, "1": 3, "1.5": 3, "11.55": 3,
		"": -1, "a ": -1, " a": -1, "a  b": -1, "a bc": -1, "1.": -1, "1.5.": -1, "1.5.6": -1, "1a": -1, "a1": -1, ".": -1, "if if": -1, "if\x00": -1, "\x00": -1,
	} {
		if got := munch.Alone(d, s); got != want {
			t.Errorf("Alone of %q: %d, want %d", s, got, want)
		}
	}
}

// P12.1: the index behind the first byte that leads nowhere, or the length.
func TestSure(t *testing.T) {
	d := machine(t, "a", "aab", "[0-9]+(\\.[0-9]+)?")
	for _, c := range []struct {
		s    string
		at   int
		want int
	}{
		{"aab", 0, 3}, {"aabb", 0, 4}, {"aaab", 0, 3}, {"aaab", 1, 4}, {"ab", 0, 2}, {"abbb", 0, 2},
		{"b", 0, 1}, {"bbb", 0, 1}, {"bbb", 1, 2}, {"bbb", 2, 3}, {"bbb", 3, 3}, {"aa", 0, 2}, {"a", 0, 1}, {"", 0, 0},
		{"1.", 0, 2}, {"1.x", 0, 3}, {"1.xx", 0, 3}, {"1.5.6", 0, 4}, {"1.5.6", 2, 5}, {"1.5.6", 1, 2}, {"x\xff", 1, 2},
	} {
		if got := munch.Sure(d, c.s, c.at); got != c.want {
			t.Errorf("Sure of %q at %d: %d, want %d", c.s, c.at, got, c.want)
		}
	}
}

// P12.1: a state from which no mark can be reached is not nowhere.
func TestSureOfStatesWithoutMarks(t *testing.T) {
	d := plain(rows{{-1, 1, 2}, {-1, -1, -1}, {2, 2, -1}}, -1, 0, -1)
	for s, want := range map[string]int{"baaax": 5, "baab": 4, "bbaa": 2, "axx": 2, "xaa": 1, "b": 1} {
		if got := munch.Sure(d, s, 0); got != want {
			t.Errorf("Sure of %q: %d, want %d", s, got, want)
		}
		checkLongest(t, d, s, 0)
	}
}

// P12.1: all small automata, all short texts, all indices.
func TestLongestOfSmallAutomata(t *testing.T) {
	all := texts("ab", 4)
	for d := range small() {
		for _, s := range all {
			for at := -1; at <= len(s)+1; at++ {
				checkLongest(t, d, s, at)
			}
		}
	}
}

// P12.1: many bigger automata and texts.
func TestLongestOfBiggerAutomata(t *testing.T) {
	x := source(4)
	for d := range bigger(9, 1500) {
		for range 20 {
			s := x.text("abc\x00\xff\x80", 12)
			for at := -1; at <= len(s)+1; at++ {
				checkLongest(t, d, s, at)
			}
		}
	}
}

// P12.1: long texts, which are not bounded here.
func TestLongestOfLongTexts(t *testing.T) {
	d := machine(t, "a", "a*b", "c[a-z]*")
	run := strings.Repeat("a", 1<<20)
	for _, c := range []struct {
		s                  string
		at                 int
		mark, length, sure int
	}{
		{run, 0, 0, 1, 1 << 20}, {run, 1<<20 - 1, 0, 1, 1 << 20}, {run, 777, 0, 1, 1 << 20},
		{run + "b" + run, 0, 1, 1<<20 + 1, 1<<20 + 2}, {run + "b" + run, 1 << 20, 1, 1, 1<<20 + 2}, {run + "x" + run, 3, 0, 1, 1<<20 + 1},
		{"c" + run, 0, 2, 1<<20 + 1, 1<<20 + 1}, {"c" + run + " ", 0, 2, 1<<20 + 1, 1<<20 + 2}, {"c" + run + " ", 1, 0, 1, 1<<20 + 2},
	} {
		if mark, length := munch.Longest(d, c.s, c.at); mark != c.mark || length != c.length {
			t.Errorf("Longest of %.10q with %d bytes at %d: %d, %d, want %d, %d", c.s, len(c.s), c.at, mark, length, c.mark, c.length)
		}
		if got := munch.Sure(d, c.s, c.at); got != c.sure {
			t.Errorf("Sure of %.10q with %d bytes at %d: %d, want %d", c.s, len(c.s), c.at, got, c.sure)
		}
	}
	for s, want := range map[string]int{run: -1, run + "b": 1, run + "ba": -1, "c" + run: 2, "c" + run + " ": -1} {
		if got := munch.Alone(d, s); got != want {
			t.Errorf("Alone of %.10q with %d bytes: %d, want %d", s, len(s), got, want)
		}
	}
}

// P12.1: for lengths around powers of two, tokens that end at the end of the text, and long before.
func TestLongestOfEachLength(t *testing.T) {
	d := machine(t, "a", "(aa)*b", "(aaa)*c")
	for n := range 1100 {
		run := strings.Repeat("a", n)
		for _, s := range []string{run, run + "b", run + "c", run + "d"} {
			for _, at := range []int{0, 1, 255, 256, n} {
				left := n - at // how many a there are
				wantMark, wantLength := -1, 0
				switch last := s[n:]; {
				case left < 0:
				case last == "b" && left%2 == 0:
					wantMark, wantLength = 1, left+1
				case last == "c" && left%3 == 0:
					wantMark, wantLength = 2, left+1
				case left > 0:
					wantMark, wantLength = 0, 1
				}
				if mark, length := munch.Longest(d, s, at); mark != wantMark || length != wantLength {
					t.Fatalf("%d a and %q at %d: %d, %d, want %d, %d", n, s[n:], at, mark, length, wantMark, wantLength)
				}
			}
		}
	}
}
