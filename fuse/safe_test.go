package fuse_test

import (
	"slices"
	"strings"
	"testing"

	"bosket/api"
	"bosket/fuse"
	"bosket/munch"
)

// The kinds of the rules in these tests: blanks are 0.
var kinds = []int{api.Skip, api.Main, api.Main, api.Comment, api.Skip}

// checkSafe writes down whether the first rule is Safe among these, whose kinds are Skip, Main, Main, Comment and Skip.
func checkSafe(t *testing.T, want bool, regexes ...string) {
	t.Helper()
	if got := fuse.Safe(machine(t, regexes...), kinds, 0); got != want {
		t.Errorf("%q: %v", regexes, got)
	}
}

// P15.3: rules as they are in most languages.
func TestSafe(t *testing.T) {
	checkSafe(t, true, "[ \\n]+")
	checkSafe(t, true, "[ \\n\\t\\r]+")
	checkSafe(t, true, "[ \\n\\t\\r]+", "[a-z]+", "[0-9]+(\\.[0-9]+)?", "#[^\\n]*")
	checkSafe(t, true, "[ \\n]+", "[a-z]+", "->|-|>")
	checkSafe(t, true, "[ \\n]")
	checkSafe(t, true, " |\\n", "[a-z]+")
	checkSafe(t, true, " +|\\n+", "[a-z]+")
	checkSafe(t, true, " |\\n| \\n|\\n ", "[a-z]+")
	checkSafe(t, true, "[ \\n]+", "[^ \\n\\t\\r]+")
}

// P15.3: one blank and one line feed are of the rule, each alone; more of them need not be.
func TestSafeHasABlankAndALineFeed(t *testing.T) {
	checkSafe(t, false, " ", "[a-z]+")
	checkSafe(t, false, " +", "[a-z]+")
	checkSafe(t, false, "\\n+", "[a-z]+")
	checkSafe(t, false, "[\\t\\r]+", "[a-z]+")
	checkSafe(t, false, "[ \\n][ \\n]+", "[a-z]+")
	checkSafe(t, false, " |\\n\\n", "[a-z]+")
	checkSafe(t, false, "  |\\n", "[a-z]+")
	checkSafe(t, false, " +\\n| ", "[a-z]+")
	checkSafe(t, false, "[a-z]+")
	checkSafe(t, false, "a", "[ \\n]+")
	checkSafe(t, false, " ", "\\n", "[a-z]+")
	checkSafe(t, false, "\\n", " ", "[a-z]+")
}

// P15.3: the rule itself, and no other one.
func TestSafeOfOtherRules(t *testing.T) {
	d := machine(t, "[ \\n]+", "[a-z]+", "=", "#[^\\n]*")
	for _, blank := range append(outside(4), 1, 2, 3) {
		if fuse.Safe(d, kinds, blank) {
			t.Errorf("rule %d", blank)
		}
	}
	if !fuse.Safe(d, kinds, 0) || !fuse.Safe(machine(t, "[a-z]+", "=", "#", "==", " [ ]*|\\n"), kinds, 4) {
		t.Error("not safe")
	}
	if fuse.Safe(machine(t, "[a-z]+"), kinds, -1) || fuse.Safe(blanked(rows{{-1, -1, -1, -1}}, -1), kinds, -1) { // -1 is no mark, and no rule
		t.Error("no rule for blanks")
	}
	l := slices.Repeat([]string{""}, 40)
	for i := range l {
		l[i] = "x" + strings.Repeat("a", i)
	}
	l[39] = "[ \\n]"
	if d := machine(t, l...); !fuse.Safe(d, nil, 39) || fuse.Safe(d, nil, 38) {
		t.Error("the last one of many rules")
	}
}

// P15.3: the kind of the rule for blanks does not count, nor do kinds of rules that there are not, or that are missing.
func TestSafeAndKinds(t *testing.T) {
	d := machine(t, "[ \\n]+", "[a-z]+")
	for _, some := range [][]int{nil, {}, {0}, {1}, {2}, {2, 2}, {0, 0}, {1, 1}, {7, -7}, {1, 0, 2, 2, 2, 2}, kinds, outside(2)} {
		if !fuse.Safe(d, some, 0) {
			t.Errorf("kinds %v", some)
		}
	}
	d = machine(t, "[ \\n]+", "[a-z]+", "#[^\\n]*")
	for _, c := range []struct {
		kinds []int
		want  bool
	}{
		{[]int{1, 0, 2}, true}, {[]int{0, 0, 2}, true}, {[]int{2, 2, 2}, true}, {[]int{1, 0, 2, 0}, true},
		{[]int{1, 0, 0}, false}, {[]int{1, 0, 1}, false}, {[]int{1, 0, 3}, false}, {[]int{1, 0, -2}, false}, {[]int{1, 2, 0}, false},
		{[]int{1, 0}, false}, {[]int{2, 2}, false}, {[]int{}, false}, {nil, false}, {[]int{1, 0, 2}[:2], false},
	} {
		if got := fuse.Safe(d, c.kinds, 0); got != c.want {
			t.Errorf("kinds %v: %v", c.kinds, got)
		}
	}
}

// P15.3: a line feed ends each token of another rule, of whatever kind that is.
func TestSafeEndsTokensByLineFeeds(t *testing.T) {
	checkSafe(t, false, "[ \\n]+", "a\\n?")
	checkSafe(t, false, "[ \\n]+", "[a-z][a-z\\n]*")
	checkSafe(t, false, "[ \\n]+", "a", "a\\nb")
	checkSafe(t, false, "[ \\n]+", "a", "aa\\nb|aa")
	checkSafe(t, false, "[ \\n]+", "a", "b", "#[^!]*")                 // a comment
	checkSafe(t, false, "[ \\n]+", "a", "b", "#[^\\n]*(\\n#[^\\n]*)*") // comments that are one
	checkSafe(t, false, "[ \\n]+", "a", "b", "c", "x\\n?")             // another rule of kind Skip
	checkSafe(t, false, "[ \\n]+|ab", "a\\n?", "b")
	checkSafe(t, true, "[ \\n]+", "a\\nb")         // no token ends ahead of it
	checkSafe(t, true, "[ \\n]+", "'[^']*'", "a")  // within a token
	checkSafe(t, true, "[ \\n]+", "a\\n", "b\\n ") // as the end of a token
	checkSafe(t, true, "[ \\n]+", "a", "b", "#[^\\n]*\\n")
}

// P15.3: a blank ends each token of another rule, unless that is for comments.
func TestSafeEndsTokensByBlanks(t *testing.T) {
	checkSafe(t, false, "[ \\n]+", "a ?")
	checkSafe(t, false, "[ \\n]+", "[a-z][a-z ]*")
	checkSafe(t, false, "[ \\n]+", "a", "a b")
	checkSafe(t, false, "[ \\n]+", "a", "b", "c", "x ?") // another rule of kind Skip
	checkSafe(t, false, "[ \\n]+", "a", "#( [^\\n]*)?")
	checkSafe(t, true, "[ \\n]+", "a", "b", "#( [^\\n]*)?")
	checkSafe(t, true, "[ \\n]+", "a", "b", "c[a-z ]*")
	checkSafe(t, false, "[ \\n]+", "c", "b", "c[a-z ]*") // the shortest one of these is no comment
	checkSafe(t, true, "[ \\n]+", "a b")
	checkSafe(t, true, "[ \\n]+", "' *'", "a")
	checkSafe(t, true, "[ \\n]+", "a ", "b +c")
	checkSafe(t, true, "[ \\n]+", "a\\t?", "b[\\r\\t]*") // other bytes do not count
}

// P15.3: the rule for blanks itself may go on, even behind other bytes.
func TestSafeAndTokensOfTheRule(t *testing.T) {
	checkSafe(t, true, "[ \\n]+|a[ \\na]*", "b")
	checkSafe(t, true, "[ \\n]+|-[ \\n]-", "b")
	checkSafe(t, true, "[ \\n]+|a", "b")
}

// P15.3: behind one blank byte of the four, no other byte goes on with a token.
func TestSafeBlanksAreApart(t *testing.T) {
	for _, b := range []string{" ", "\\n", "\\t", "\\r"} {
		for _, c := range []string{"a", "-", "\\x00", "\\xff", "\\x0b", "\\x0c", "\\xa0", "!", "\\x1f", "\\x08", "\\x0e"} {
			checkSafe(t, false, "[ \\n]+|"+b+c, "x")
			checkSafe(t, false, "[ \\n]+", b+c)
			checkSafe(t, false, "[ \\n\\t\\r]+|"+b+c+"x", "x")
			checkSafe(t, false, "[ \\n]+", "x", "y", b+c)
		}
		for _, c := range []string{" ", "\\n", "\\t", "\\r"} {
			checkSafe(t, true, "[ \\n]|"+b+c, "x")
			checkSafe(t, true, "[ \\n]|"+b+c+b, "x")
		}
	}
	checkSafe(t, true, "[ \\n]|\\t+ \\t", "x")
	checkSafe(t, true, "[ \\n]|\\r\\n", "x")
}

// P15.3: only what leads on from the first byte counts for that, as it is written.
func TestSafeBehindTwoBlanks(t *testing.T) {
	checkSafe(t, true, "[ \\n]|  a", "x")
	checkSafe(t, true, "[ \\n]|\\t +a", "x")
	checkSafe(t, false, "[ \\n]|  +a| a", "x")
	checkSafe(t, false, "[ \\n]|\\t *a", "x")
	checkSafe(t, false, "[ \\n]|[ \\n]+a", "x") // two blanks lead to where one does
}

// P15.3: no token of another rule begins with one of the four bytes.
func TestSafeBlanksAreOfOneRule(t *testing.T) {
	for _, b := range []string{" ", "\\n", "\\t", "\\r"} {
		for _, c := range []string{" ", "\\n", "\\t", "\\r"} {
			checkSafe(t, false, "[ \\n]", b+c)
			checkSafe(t, false, "[ \\n]", "x", "y", b+c)      // comments
			checkSafe(t, false, "[ \\n]", "x", "y", "z", b+c) // another rule of kind Skip
			checkSafe(t, false, "[ \\n]", b+c+"+x")
			checkSafe(t, false, "[ \\n]", b+c+b+c)
		}
	}
	checkSafe(t, false, "[ \\n]+", "[^ \\n]+")
	checkSafe(t, false, "[ \\n]+", "\\t")
	checkSafe(t, false, "[ \\n]+", "\\r")
	checkSafe(t, false, "[ \\n]+", "x", "y", "z", "\\t+")
	checkSafe(t, true, "[ \\n]+", "x\\t", "y\\r\\n ")
	checkSafe(t, true, "[ \\n\\t]+", "\\x0b")
}

// P15.3: automata that lead to states from which no mark can be reached, or that have states which are not reached.
func TestSafeAndStatesThatDoNotCount(t *testing.T) {
	for _, c := range []struct {
		d    api.DFA
		want bool
	}{
		{blanked(rows{{2, 1, 1, 1}, {-1, 1, 1, 1}, {2, -1, -1, -1}}, -1, 0, 1), true},
		{blanked(rows{{2, 1, 1, 1}, {3, 1, 1, 1}, {2, 3, 3, 3}, {3, 3, 3, 3}}, -1, 0, 1, -1), true},
		{blanked(rows{{2, 1, 1, 1}, {3, 1, 1, 1}, {2, 3, -1, -1}, {4, 4, 4, 4}, {-1, -1, -1, 3}}, -1, 0, 1, -1, -1), true},
		{blanked(rows{{2, 1, 1, 1}, {-1, 1, 1, 1}, {2, 3, -1, -1}, {4, -1, -1, -1}, {-1, -1, -1, -1}}, -1, 0, 1, -1, 5), false},
		{blanked(rows{{2, 1, 1, 1}, {-1, 1, 1, 1}, {2, -1, 3, -1}, {4, -1, -1, -1}, {-1, -1, -1, -1}}, -1, 0, 1, -1, 0), false},
		{blanked(rows{{2, 1, 1, 1}, {3, 1, 1, 1}, {2, -1, -1, -1}, {4, -1, -1, -1}, {-1, -1, -1, -1}}, -1, 0, 1, -1, 0), false},
		{blanked(rows{{2, 1, 1, 3}, {-1, 1, 1, 1}, {2, -1, -1, -1}, {3, 3, 3, 3}}, -1, 0, 1, -1), true},
		{blanked(rows{{2, 1, 1, 1}, {-1, 1, 1, 1}, {2, -1, -1, -1}, {3, 3, 3, 3}}, -1, 0, 1, 1), true},  // the last one is not reached
		{blanked(rows{{2, 1, 1, 1}, {-1, 1, 1, 1}, {2, -1, -1, -1}, {0, 1, 2, 3}}, -1, 0, 1, 9), true},  // nor here
		{blanked(rows{{2, 1, 1, 1}, {-1, 1, 1, 1}, {2, -1, -1, 3}, {3, 3, -1, 3}}, -1, 0, 1, 1), false}, // it is
		{blanked(rows{{2, 1, 1, 1}, {-1, 1, 1, 1}, {2, -1, -1, 3}, {3, 3, -1, 3}}, -1, 0, 1, 3), true},  // it is, as a comment
		{blanked(rows{{2, 1, 1, 1}, {-1, 1, 1, 1}, {2, -1, -1, 3}, {3, 3, 3, 3}}, -1, 0, 1, 3), false},  // it is, and a line feed leads on
		{blanked(rows{{2, 1, 1, 1}, {-1, 1, 1, 1}, {2, -1, -1, -1}}, 0, 0, 1), true},                    // the empty string is of the rule
		{blanked(rows{{2, 1, 1, 1}, {-1, 1, 1, 1}, {2, -1, -1, -1}}, 1, 0, 1), false},                   // it is a token that goes on
		{blanked(rows{{2, 1, 1, 1}, {-1, 1, 1, 1}, {2, -1, -1, -1}}, 3, 0, 1), false},                   // even as a comment
		{blanked(rows{{-1, 0, 0, 0}}, 0), true},
		{blanked(rows{{0, 0, 0, 0}}, 0), false},
		{blanked(rows{{-1, 0, 0, 0}}, 1), false},
		{blanked(rows{{-1, 0, 0, 0}}, -1), false},
		{blanked(rows{{-1, 1, 2, -1}, {-1, -1, -1, -1}, {-1, -1, -1, -1}}, -1, 0, 0), true},
		{blanked(rows{{-1, 1, 2, -1}, {-1, -1, -1, -1}, {-1, -1, -1, -1}}, -1, 0, 4), false},
		{blanked(rows{{-1, 1, 2, -1}, {-1, -1, -1, -1}, {-1, -1, -1, -1}}, -1, 4, 0), false},
	} {
		if got := fuse.Safe(c.d, kinds, 0); got != c.want || safe(c.d, kinds, 0) != c.want {
			t.Errorf("%s: %v", told(c.d), got)
		}
	}
}

// holdSafe holds Safe against the model, for all rules that may be meant. It returns how many are Safe.
func holdSafe(t *testing.T, d api.DFA, kinds []int) int {
	t.Helper()
	count := 0
	for blank := -1; blank < 4; blank++ {
		want := safe(d, kinds, blank)
		if got := fuse.Safe(d, kinds, blank); got != want {
			t.Fatalf("rule %d, kinds %v: %v: %s", blank, kinds, got, told(d))
		}
		if want {
			count++
			readBack(t, d, kinds, blank)
		}
	}
	return count
}

// readBack fails unless all short tokens of rules that are neither for blanks nor for comments are read back from lists of them, with a blank or a line feed behind each.
func readBack(t *testing.T, d api.DFA, kinds []int, blank int) {
	t.Helper()
	var tokens []string
	for _, s := range texts("a \n\t\r", 2) {
		mark := munch.Alone(d, s)
		if comment := mark >= 0 && mark < len(kinds) && kinds[mark] == api.Comment; mark >= 0 && mark != blank && !comment && len(tokens) < 8 {
			tokens = append(tokens, s)
		}
	}
	for _, l := range lists(tokens, 2) {
		for _, with := range []string{" ", "\n"} {
			if s := ended(l, with); !fuse.Splits(d, blank, s, l) {
				t.Fatalf("%q is not read back from %q: %s", l, s, told(d))
			}
		}
	}
}

// P15.3, P15.4: all automata of up to two states, over the classes of a blank, a line feed, tabs and returns, and other bytes.
func TestSafeOfSmallAutomata(t *testing.T) {
	count := 0
	for states := 1; states <= 2; states++ {
		for _, entries := range numbersTo(states, 4*states) {
			for _, mark := range numbersTo(2, states) {
				d := blanked(slices.Collect(slices.Chunk(entries, 4)), mark...)
				count += holdSafe(t, d, []int{api.Skip, api.Comment})
			}
		}
	}
	if count < 100 {
		t.Errorf("%d are safe", count)
	}
}

// P15.3, P15.4: many bigger automata, which differ a little from some that are safe.
func TestSafeOfBiggerAutomata(t *testing.T) {
	var of []api.DFA
	for _, regexes := range [][]string{
		{"[ \\n]+", "[a-z]+", "a-", "#[^\\n]*"}, {"[ \\n]", "a", "aa", "#[^\\n]*"}, {" +|\\n+|\\r\\n", "[a-z]+", "'[^']*'", "a"}, {"[ \\n\\t]+|a", "b a", "b\\tc", "d( [^\\n]*)?"},
	} {
		of = append(of, machine(t, regexes...))
	}
	of = append(of,
		blanked(rows{{2, 1, 1, 1}, {3, 1, 1, 1}, {2, 3, 3, 3}, {3, 3, 3, 3}}, -1, 0, 1, -1),
		blanked(rows{{2, 1, 1, 3}, {-1, -1, 3, -1}, {4, -1, -1, -1}, {-1, -1, 1, -1}, {4, 4, -1, 4}}, -1, 0, 1, -1, 3),
	)
	some := [][]int{kinds[:4], {1, 0, 0, 0}, {1, 2, 0}, nil}
	var count, other int
	for d := range changed(source(11), 6000, of...) {
		for _, kinds := range some {
			n := holdSafe(t, d, kinds)
			count, other = count+n, other+1-min(n, 1)
		}
	}
	if min(count, other) < 1000 {
		t.Errorf("%d are safe, of %d none is", count, other)
	}
}

// P15.4: with rules of a language, texts are read back with a blank or a line feed behind each, however many they are.
func TestSafeTextsAreReadBack(t *testing.T) {
	d := machine(t, "[ \\n\\t]+", "[a-z]+|[0-9]+(\\.[0-9]+)?|'[^']*'", "==?|[()]", "#[^\\n]*")
	if !fuse.Safe(d, kinds, 0) {
		t.Fatal("not safe")
	}
	x := source(12)
	words := []string{"a", "if", "1", "1.5", "' '", "'\n'", "''", "=", "==", "(", ")"}
	for range 1000 {
		l := x.words(words, 300)
		for _, with := range []string{" ", "\n"} {
			if s := ended(l, with); !fuse.Splits(d, 0, s, l) {
				t.Fatalf("%q", s)
			}
		}
		if got, err := fuse.Gaps(d, 0, l[:min(len(l), 20)]); err != api.OK {
			t.Fatalf("%q: %v, error %d", l, got, err)
		}
	}
}
