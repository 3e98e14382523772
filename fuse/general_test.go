package fuse_test

import (
	"math"
	"runtime"
	"slices"
	"strings"
	"testing"

	"bosket/api"
	"bosket/fuse"
)

// wild returns automata that are no plain ones in many ways: for none of them the functions are specified.
func wild() []api.DFA {
	l := []api.DFA{
		{}, {Next: rows{nil}}, {Mark: []int{3, 4}}, {Next: rows{{0}, {1}, nil, {2, 3}}, Mark: []int{4}}, {Next: rows{{0}}, Mark: []int{-2}},
		blanked(rows{{-1, -2, math.MinInt, 0}}, 0), blanked(rows{{-1, 1, math.MaxInt, 1}}, 0), blanked(rows{{-1, 1, 1 << 15}}, 0),
		blanked(rows{{0, 0}}, 0), blanked(rows{{0, 0, 0, 0, 0}}, 0), blanked(rows{{0, 0, 0, 0}}), blanked(rows{{0, 0, 0, 0}}, math.MinInt, math.MaxInt),
		{Class: [256]uint8{255: 255}, Next: rows{slices.Repeat([]int{0}, 256)}, Mark: []int{0}},
		{Next: slices.Repeat(rows{{0}}, 1<<15+1), Mark: slices.Repeat([]int{0}, 1<<15+1)},
	}
	x := source(3)
	for range 300 {
		d := blanked(nil)
		if x.below(3) == 0 {
			d.Class[x.below(256)] = uint8(x.below(256))
		}
		for range x.below(5) {
			var row []int
			for range x.below(6) {
				to := x.below(6) - 1
				if x.below(8) == 0 {
					to = outside(5)[x.below(14)]
				}
				row = append(row, to)
			}
			d.Next = append(d.Next, row)
		}
		for range x.below(6) {
			d.Mark = append(d.Mark, x.below(6)-2)
		}
		l = append(l, d)
	}
	return l
}

// P1: every call ends and does not panic.
func TestEveryCallEnds(t *testing.T) {
	all := append(lists([]string{"a", " ", "\n", ""}, 2), slices.Repeat([]string{"a"}, 30), slices.Repeat([]string{""}, 300), slices.Repeat([]string{"\xff"}, 301), []string{strings.Repeat("a ", 1<<16), "a"})
	blanks := append(outside(2), 0, 1, 2)
	for _, d := range append(wild(), machine(t, "[ \\n]+", "[a-z]+")) {
		for i, l := range all {
			blank := blanks[i%len(blanks)]
			s := fuse.Join(l, slices.Repeat([]bool{true}, i))
			fuse.Splits(d, blank, s, l)
			if gaps, err := fuse.Gaps(d, blank, l); err != api.OK && len(gaps) != 0 {
				t.Fatalf("%d gaps, error %d: %s", len(gaps), err, told(d))
			}
			for _, a := range l[:min(len(l), 2)] {
				fuse.Two(d, a, s)
			}
		}
		for _, blank := range blanks {
			for _, kinds := range [][]int{nil, kinds, outside(2)} {
				fuse.Safe(d, kinds, blank)
			}
		}
	}
}

// P1: Safe of as many states as there may be, over as many classes.
func TestSafeOfGreatAutomata(t *testing.T) {
	d := api.DFA{Next: make(rows, 1<<15), Mark: slices.Repeat([]int{1}, 1<<15)}
	for b := range 256 {
		d.Class[b] = uint8(b)
	}
	for state := range d.Next {
		row := slices.Repeat([]int{(state + 3) % (1 << 15)}, 256)
		row[' '], row['\n'] = -1, -1
		d.Next[state] = row
	}
	for state, mark := range []int{-1, 0} {
		d.Mark[state] = mark
		for _, b := range []byte(" \n\t\r") {
			d.Next[state][b] = 1
		}
	}
	for b := range 256 {
		if b != ' ' && b != '\n' && b != '\t' && b != '\r' {
			d.Next[1][b] = -1
		}
		for _, to := range []int{0, 1} { // nothing leads there but what begins there
			from := (to - 3 + 1<<15) % (1 << 15)
			d.Next[from][b] = -1
		}
	}
	if !fuse.Safe(d, nil, 0) {
		t.Error("not safe")
	}
	d.Next[3*10000]['\n'] = 3
	if fuse.Safe(d, nil, 0) {
		t.Error("safe")
	}
}

// answers are what the functions return for an automaton, kinds, texts and gaps.
type answers struct {
	joined string
	flags  []bool
	gaps   []bool
	err    api.Errno
}

func ask(d api.DFA, kinds []int, blank int, texts []string, gaps []bool) answers {
	got := answers{joined: fuse.Join(texts, gaps)}
	got.flags = append(got.flags, fuse.Splits(d, blank, got.joined, texts), fuse.Safe(d, kinds, blank))
	for i := 1; i < len(texts); i++ {
		got.flags = append(got.flags, fuse.Two(d, texts[i-1], texts[i]))
	}
	got.gaps, got.err = fuse.Gaps(d, blank, texts)
	return got
}

func (a answers) equal(b answers) bool {
	return a.joined == b.joined && slices.Equal(a.flags, b.flags) && slices.Equal(a.gaps, b.gaps) && a.err == b.err
}

// spoil overwrites all elements of a list, those behind its length too.
func spoil[T any](l []T, with T) {
	l = l[:cap(l)]
	for i := range l {
		l[i] = with
	}
}

// samples returns automata, and texts that are tokens of most of them.
func samples(t *testing.T) ([]api.DFA, [][]string) {
	l := []api.DFA{machine(t, "[ \\n]+", "[a-z]+", "=", "==", "#[^\\n]*"), machine(t, " ", "a", "aa", "ab|b ", "=+"), machine(t, "[ \\n]", "a|b", "=", "a= "), blanked(rows{{-1, 0, 0, 0}}, 0)}
	return l, lists([]string{"a", "b", "=", "=="}, 3)
}

// P2, rule 4: arguments are neither modified nor kept, in their spare capacity neither, and what is returned shares nothing with them.
func TestArgumentsStayAsTheyAre(t *testing.T) {
	automata, all := samples(t)
	for _, of := range automata {
		for _, l := range all {
			d := clone(of)
			texts, gaps, numbers := append(slices.Clone(l), "s", "p"), []bool{true, false, true, false, true}, append(slices.Clone(kinds), 7, 7)
			first := ask(d, numbers[:len(kinds)], 0, texts[:len(l)], gaps[:2])
			want := first
			want.flags, want.gaps = slices.Clone(first.flags), slices.Clone(first.gaps)
			spoil(first.gaps, len(l)%2 == 0)
			if !equal(d, of) || !slices.Equal(texts, append(slices.Clone(l), "s", "p")) || !slices.Equal(gaps, []bool{true, false, true, false, true}) || !slices.Equal(numbers, append(slices.Clone(kinds), 7, 7)) {
				t.Fatalf("arguments have changed: %q, %v, %v, %s", texts, gaps, numbers, told(d))
			}
			again := ask(d, numbers[:len(kinds)], 0, texts[:len(l)], gaps[:2])
			spoil(texts, "z")
			spoil(gaps, true)
			spoil(numbers, 2)
			for _, row := range d.Next {
				spoil(row, 0)
			}
			spoil(d.Mark, 7)
			if !again.equal(want) {
				t.Fatalf("what was told of %q has changed: %s", l, told(of))
			}
		}
	}
}

// P2, rule 4: a call answers the same, whatever was called before.
func TestCallsAnswerTheSameAgain(t *testing.T) {
	automata, all := samples(t)
	var before []answers
	for i, l := range all {
		before = append(before, ask(automata[i%len(automata)], kinds, 0, l, []bool{true}))
	}
	for i, l := range slices.Backward(all) {
		if !ask(automata[i%len(automata)], kinds, 0, l, []bool{true}).equal(before[i]) {
			t.Fatalf("other answers for %q", l)
		}
	}
}

// P2, rule 4: what Join returns is not a part of an argument, since it takes memory of its own.
func TestJoinIsNew(t *testing.T) {
	long := strings.Repeat("a", 100000)
	for _, l := range [][]string{{long}, {long, ""}, {"", long}, {"", long, ""}} {
		var before, after runtime.MemStats
		runtime.ReadMemStats(&before)
		s := fuse.Join(l, nil)
		runtime.ReadMemStats(&after)
		if n := after.TotalAlloc - before.TotalAlloc; n < 100000 || s != long {
			t.Errorf("%d texts: %d bytes", len(l), n)
		}
	}
}
