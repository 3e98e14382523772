package fuse_test

import (
	"slices"
	"strings"
	"testing"

	"bosket/fuse"
)

// P15.1: a blank behind each text but the last one for which a gap is set.
func TestJoin(t *testing.T) {
	for _, c := range []struct {
		texts []string
		gaps  []bool
		want  string
	}{
		{[]string{"a", "b", "c"}, []bool{true, true}, "a b c"},
		{[]string{"a", "b", "c"}, []bool{true, false}, "a bc"},
		{[]string{"a", "b", "c"}, []bool{false, true}, "ab c"},
		{[]string{"a", "b", "c"}, []bool{false, false}, "abc"},
		{[]string{"if", "(", "x", ")"}, []bool{true, false, false}, "if (x)"},
		{[]string{"a\n", "\x00\xff", "\u00e9"}, []bool{true, true}, "a\n \x00\xff \u00e9"},
		{[]string{" ", "  "}, []bool{true}, "    "},
		{[]string{"a"}, nil, "a"},
		{nil, nil, ""},
	} {
		if got := fuse.Join(c.texts, c.gaps); got != c.want {
			t.Errorf("%q, %v: %q, want %q", c.texts, c.gaps, got, c.want)
		}
	}
}

// P15.1: no blank stands behind the last text, and none where there are no gaps any more.
func TestJoinWithMoreOrFewerGaps(t *testing.T) {
	for _, c := range []struct {
		texts []string
		gaps  []bool
		want  string
	}{
		{[]string{"a", "b", "c"}, []bool{true, true, true}, "a b c"},
		{[]string{"a", "b", "c"}, []bool{false, false, true}, "abc"},
		{[]string{"a", "b", "c"}, []bool{true, false, true, true, true}, "a bc"},
		{[]string{"a", "b", "c"}, []bool{true}, "a bc"},
		{[]string{"a", "b", "c"}, []bool{}, "abc"},
		{[]string{"a", "b", "c"}, nil, "abc"},
		{[]string{"a"}, []bool{true}, "a"},
		{[]string{"a"}, []bool{true, true}, "a"},
		{nil, []bool{true}, ""},
		{[]string{}, []bool{true, true, true}, ""},
		{[]string{"a", "b", "c"}, []bool{true, true, true, true}[:1], "a bc"}, // gaps that stand only in spare capacity
	} {
		if got := fuse.Join(c.texts, c.gaps); got != c.want {
			t.Errorf("%q, %v: %q, want %q", c.texts, c.gaps, got, c.want)
		}
	}
}

// P15.1: empty texts have blanks behind them too.
func TestJoinOfEmptyTexts(t *testing.T) {
	for _, c := range []struct {
		texts []string
		gaps  []bool
		want  string
	}{
		{[]string{""}, []bool{true}, ""},
		{[]string{"", ""}, []bool{true}, " "},
		{[]string{"", ""}, []bool{false}, ""},
		{[]string{"", "", ""}, []bool{true, true}, "  "},
		{[]string{"a", "", "b"}, []bool{true, true}, "a  b"},
		{[]string{"a", "", "b"}, []bool{false, true}, "a b"},
		{[]string{"a", ""}, []bool{true}, "a "},
	} {
		if got := fuse.Join(c.texts, c.gaps); got != c.want {
			t.Errorf("%q, %v: %q, want %q", c.texts, c.gaps, got, c.want)
		}
	}
}

// P15.1: all short lists with all gaps, and many longer ones.
func TestJoinOfAllLists(t *testing.T) {
	var gaps [][]bool
	for length := range 6 {
		for bits := range 1 << length {
			var l []bool
			for i := range length {
				l = append(l, bits>>i&1 == 1)
			}
			gaps = append(gaps, l)
		}
	}
	for _, l := range lists([]string{"", "a", "b ", " "}, 4) {
		for _, some := range gaps {
			if got, want := fuse.Join(l, some), joined(l, some); got != want {
				t.Fatalf("%q, %v: %q, want %q", l, some, got, want)
			}
		}
	}
	x := source(2)
	words := texts("a \xff", 3)
	for range 2000 {
		l, some := x.words(words, 50), x.flags(x.below(60))
		if got, want := fuse.Join(l, some), joined(l, some); got != want {
			t.Fatalf("%q, %v: %q, want %q", l, some, got, want)
		}
	}
}

// P15.1: long texts, and more of them than Gaps takes.
func TestJoinOfLongLists(t *testing.T) {
	l, gaps := slices.Repeat([]string{"ab", "c"}, 1<<17), slices.Repeat([]bool{true, false}, 1<<17)
	if got, want := fuse.Join(l, gaps), strings.Repeat("ab c", 1<<17); got != want {
		t.Errorf("%d bytes, want %d", len(got), len(want))
	}
	long := strings.Repeat("x", 1<<20)
	if got, want := fuse.Join([]string{long, long}, gaps), long+" "+long; got != want {
		t.Errorf("%d bytes, want %d", len(got), len(want))
	}
}
