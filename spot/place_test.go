package spot_test

import (
	"slices"
	"strings"
	"testing"

	"bosket/api"
	"bosket/spot"
)

func ofs(t *testing.T, s string, at int, want spot.Spot) {
	t.Helper()
	if p := spot.Of(s, at); p != want {
		t.Errorf("Of(%.40q, %d): %v, want %v", s, at, p, want)
	}
}

func ats(t *testing.T, s string, p spot.Spot, want int, wantErr api.Errno) {
	t.Helper()
	if at, err := spot.At(s, p); at != want || err != wantErr {
		t.Errorf("At(%.40q, %v): %d, error %d, want %d, error %d", s, p, at, err, want, wantErr)
	}
}

// P13.1: the chapter's example, and others told by hand: a new line is the last place of its line.
func TestOf(t *testing.T) {
	ofs(t, "a\nbc", 3, spot.Spot{Line: 2, Col: 2})
	for at, want := range []spot.Spot{{1, 1}, {1, 2}, {2, 1}, {2, 2}, {2, 3}} {
		ofs(t, "a\nbc", at, want)
	}
	for at, want := range []spot.Spot{{1, 1}, {2, 1}, {3, 1}} {
		ofs(t, "\n\n", at, want)
	}
	ofs(t, "", 0, spot.Spot{Line: 1, Col: 1})
	ofs(t, "é\n€x", 2, spot.Spot{Line: 1, Col: 3}) // columns count bytes
	ofs(t, "é\n€x", 1, spot.Spot{Line: 1, Col: 2})
	ofs(t, "é\n€x", 6, spot.Spot{Line: 2, Col: 4})
	ofs(t, "\t\r\nx", 2, spot.Spot{Line: 1, Col: 3})
}

// P13.1: an index is clamped to the range from 0 to the length.
func TestOfClamps(t *testing.T) {
	for _, s := range append(samples(), texts(letters, 3)...) {
		places := walk(s)
		for _, at := range outside(len(s)) {
			ofs(t, s, at, places[min(max(at, 0), len(s))])
		}
	}
}

// P13.1: Of and At, held against places told byte by byte.
func TestOfAndAtOfAllIndices(t *testing.T) {
	for _, s := range append(samples(), texts(letters, 6)...) {
		for at, p := range walk(s) {
			ofs(t, s, at, p)
			ats(t, s, p, at, api.OK)
		}
	}
}

// P13.1: At returns ErrArg for positions that do not exist, and 0 beside it.
func TestAtOfPositionsThatDoNotExist(t *testing.T) {
	for _, p := range []spot.Spot{{}, {0, 1}, {1, 0}, {-1, 1}, {1, -1}, {1, 5}, {1, 6}, {2, 0}, {2, 7}, {3, 0}, {3, 2}, {4, 1}, {4, 0}} {
		ats(t, "one\n  two\n", p, 0, api.ErrArg)
	}
	ats(t, "one\n  two\n", spot.Spot{Line: 1, Col: 4}, 3, api.OK) // behind the last byte of a line
	ats(t, "one\n  two\n", spot.Spot{Line: 2, Col: 6}, 9, api.OK)
	ats(t, "one\n  two\n", spot.Spot{Line: 3, Col: 1}, 10, api.OK)
	ats(t, "", spot.Spot{Line: 1, Col: 1}, 0, api.OK)
	ats(t, "", spot.Spot{Line: 1, Col: 2}, 0, api.ErrArg)
	ats(t, "", spot.Spot{Line: 2, Col: 1}, 0, api.ErrArg)
}

// P13.1: of all positions around a text, At finds just those of its indices.
func TestAtOfAllPositions(t *testing.T) {
	for _, s := range append(samples()[:20], texts(letters, 4)...) {
		index := map[spot.Spot]int{}
		for at, p := range walk(s) {
			index[p] = at
		}
		most := min(len(s), 40) + 3
		lines, cols := outside(len(s)), outside(len(s))
		for i := range most {
			lines, cols = append(lines, i), append(cols, i)
		}
		for _, line := range lines {
			for _, col := range cols {
				p := spot.Spot{Line: line, Col: col}
				if at, ok := index[p]; ok {
					ats(t, s, p, at, api.OK)
				} else {
					ats(t, s, p, 0, api.ErrArg)
				}
			}
		}
	}
}

// P13.3: At inverts Of, and Of inverts At where it finds a place.
func TestAtInvertsOf(t *testing.T) {
	x := source(1)
	for range 3000 {
		s := x.text(letters, 60)
		for at := -2; at < len(s)+3; at++ {
			ats(t, s, spot.Of(s, at), min(max(at, 0), len(s)), api.OK)
		}
		p := spot.Spot{Line: x.below(12), Col: x.below(30)}
		if at, err := spot.At(s, p); err == api.OK {
			ofs(t, s, at, p)
		}
	}
}

// P13.1: how many lines a text has, and the length of the longest one.
func TestLinesAndWidth(t *testing.T) {
	for _, c := range []struct {
		s            string
		lines, width int
	}{
		{"", 1, 0}, {"a", 1, 1}, {"\n", 2, 0}, {"a\n", 2, 1}, {"\nab", 2, 2}, {"one\n  two\n", 3, 5}, {"abc\nab\na", 3, 3}, {"a\nab\nabc", 3, 3}, {"a\nabc\nab", 3, 3}, {"\n\n\n", 4, 0},
		{"€", 1, 3}, {"é\nabc\n", 3, 3}, {"a\r\n\rb", 2, 2}, {"\v\f\u2028\u0085", 1, 7}, {"\xff\xfe\n\xc3", 2, 2}, {every(), 2, 245},
	} {
		if n := spot.Lines(c.s); n != c.lines {
			t.Errorf("Lines(%.40q): %d, want %d", c.s, n, c.lines)
		}
		if n := spot.Width(c.s); n != c.width {
			t.Errorf("Width(%.40q): %d, want %d", c.s, n, c.width)
		}
	}
}

// P13.1: Lines, Width and Line, held against the parts between new lines.
func TestLinesOfAllTexts(t *testing.T) {
	for _, s := range append(samples(), texts(letters, 5)...) {
		l := strings.Split(s, "\n")
		width := 0
		for i, want := range l {
			width = max(width, len(want))
			if line, ok := spot.Line(s, i+1); line != want || !ok {
				t.Errorf("Line(%.40q, %d): %.40q, %v, want %.40q", s, i+1, line, ok, want)
			}
		}
		if n := spot.Lines(s); n != len(l) {
			t.Errorf("Lines(%.40q): %d, want %d", s, n, len(l))
		}
		if n := spot.Width(s); n != width {
			t.Errorf("Width(%.40q): %d, want %d", s, n, width)
		}
		for _, n := range append(outside(len(l)), 0) {
			if line, ok := spot.Line(s, n); line != "" || ok {
				t.Errorf("Line(%.40q, %d): %.40q, %v, but there are %d lines", s, n, line, ok, len(l))
			}
		}
	}
}

// P13.1: Line tells an empty line from one that is not there.
func TestLine(t *testing.T) {
	type answer struct {
		line string
		ok   bool
	}
	var got []answer
	for n := range 6 {
		line, ok := spot.Line("one\n\n  two \n", n)
		got = append(got, answer{line, ok})
	}
	if want := []answer{{"", false}, {"one", true}, {"", true}, {"  two ", true}, {"", true}, {"", false}}; !slices.Equal(got, want) {
		t.Errorf("%v, want %v", got, want)
	}
	if line, ok := spot.Line("", 1); line != "" || !ok {
		t.Errorf("%q, %v", line, ok)
	}
}

// P13.1: Indent counts the blanks at the beginning of a text, and nothing else.
func TestIndent(t *testing.T) {
	for s, want := range map[string]int{"": 0, "a": 0, " ": 1, "   ": 3, "  a ": 2, "\t ": 0, " \t ": 1, "\n  ": 0, "  \n  ": 2, "\u00a0": 0, " \u00a0": 1, " \u2003": 1, " \xa0": 1, "  \x00": 2, strings.Repeat(" ", 70000): 70000} {
		if n := spot.Indent(s); n != want {
			t.Errorf("Indent(%.40q): %d, want %d", s, n, want)
		}
	}
	for _, s := range append(samples(), texts(letters, 5)...) {
		if n, want := spot.Indent(s), len(s)-len(strings.TrimLeft(s, " ")); n != want {
			t.Errorf("Indent(%.40q): %d, want %d", s, n, want)
		}
	}
	for c := range 256 {
		want := 2
		if c == 32 {
			want = 4
		}
		if n := spot.Indent("  " + string([]byte{byte(c)}) + " "); n != want {
			t.Errorf("byte %d: %d, want %d", c, n, want)
		}
	}
}

// P13.1: each byte by itself: only 10 ends a line.
func TestOnlyTenEndsALine(t *testing.T) {
	for c := range 256 {
		s := "ab" + string([]byte{byte(c)}) + "c"
		lines, width, p := 1, 4, spot.Spot{Line: 1, Col: 4}
		if c == 10 {
			lines, width, p = 2, 2, spot.Spot{Line: 2, Col: 1}
		}
		if spot.Lines(s) != lines || spot.Width(s) != width {
			t.Errorf("byte %d: %d lines of %d bytes", c, spot.Lines(s), spot.Width(s))
		}
		ofs(t, s, 3, p)
	}
}
