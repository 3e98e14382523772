package spot_test

import (
	"runtime"
	"slices"
	"strings"
	"testing"

	"bosket/api"
	"bosket/spot"
)

// asked returns what all calls answer for a text, at some indices and lines.
func asked(s string) []any {
	got := []any{spot.Lines(s), spot.Width(s), spot.Indent(s)}
	n, ok := spot.Number(s)
	got = append(got, n, ok)
	for _, at := range append(outside(len(s)), 0, 1, len(s)/2, len(s)) {
		p := spot.Of(s, at)
		index, err := spot.At(s, p)
		other, fault := spot.At(s, spot.Spot{Line: at, Col: at})
		line, found := spot.Line(s, at)
		got = append(got, p, index, err, other, fault, line, found, spot.Show(p), spot.Digits(at))
	}
	return got
}

// P1: every call ends and does not panic; long texts are walked through once a call.
func TestEveryCallEnds(t *testing.T) {
	const length = 20 * api.MaxText
	for _, s := range append(texts(letters, 3), strings.Repeat("\n", length), strings.Repeat("ab\n", length/3), strings.Repeat(" ", length), strings.Repeat("\xff", length), strings.Repeat("é", length/2), strings.Repeat("1", length)) {
		asked(s)
		last := spot.Of(s, len(s))
		if at, err := spot.At(s, last); at != len(s) || err != api.OK || last.Line != spot.Lines(s) {
			t.Errorf("%.20q: the end is %v, and %d, error %d", s, last, at, err)
		}
	}
}

// P2, rule 4: a call answers the same, whatever was called before; calls that failed are not to be noticed.
func TestCallsAnswerTheSameAgain(t *testing.T) {
	all := append(samples(), texts(letters, 3)...)
	var before [][]any
	for _, s := range all {
		before = append(before, asked(s))
	}
	for i, s := range slices.Backward(all) {
		if after := asked(s); !slices.Equal(before[i], after) {
			t.Errorf("%.40q: %v, and then %v", s, before[i], after)
		}
	}
}

// allocated returns how many bytes a call allocates, or somewhat more.
func allocated(call func()) uint64 {
	var before, after runtime.MemStats
	runtime.ReadMemStats(&before)
	call()
	runtime.ReadMemStats(&after)
	return after.TotalAlloc - before.TotalAlloc
}

// P2, rule 4: a line is not a part of the argument, not even where it is all of it, since it takes memory of its own.
func TestLinesAreNew(t *testing.T) {
	long := strings.Repeat("a", 65000)
	for _, s := range []string{long, long + "\n", "\n" + long, "b\n" + long + "\nb"} {
		for n := range spot.Lines(s) {
			var line string
			got := allocated(func() { line, _ = spot.Line(s, n+1) })
			if got < uint64(len(line)) {
				t.Errorf("line %d of %d bytes takes %d bytes", n+1, len(line), got)
			}
		}
	}
}
