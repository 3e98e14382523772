package lanes_test

import (
	"runtime"
	"slices"
	"strings"
	"testing"

	"bosket/api"
	"bosket/lanes"
)

// answers are what the functions return for a list of tokens, and for it and another one.
type answers struct {
	kinds  []int
	lists  [][]api.Token
	notes  []lanes.Note
	texts  []string
	rules  []int
	breaks []bool
}

func ask(kinds []int, a, b []api.Token) answers {
	got := answers{notes: lanes.Notes(kinds, a), texts: lanes.Texts(a), rules: lanes.Rules(a)}
	for _, t := range a {
		got.kinds, got.breaks = append(got.kinds, lanes.Kind(kinds, t)), append(got.breaks, lanes.Breaks(t.Text))
	}
	for kind := -2; kind < 5; kind++ {
		got.lists = append(got.lists, lanes.Of(kinds, a, kind))
	}
	got.lists = append(got.lists, lanes.Merge(a, b), lanes.Merge(b, a), lanes.Merge(a, a), lanes.Merge(a, nil), lanes.Merge(nil, a))
	return got
}

func (a answers) equal(b answers) bool {
	return slices.Equal(a.kinds, b.kinds) && slices.EqualFunc(a.lists, b.lists, slices.Equal) && slices.Equal(a.notes, b.notes) && slices.Equal(a.texts, b.texts) && slices.Equal(a.rules, b.rules) && slices.Equal(a.breaks, b.breaks)
}

// copied returns answers that share nothing with others.
func (a answers) copied() answers {
	lists := make([][]api.Token, len(a.lists))
	for i, l := range a.lists {
		lists[i] = slices.Clone(l)
	}
	return answers{slices.Clone(a.kinds), lists, slices.Clone(a.notes), slices.Clone(a.texts), slices.Clone(a.rules), slices.Clone(a.breaks)}
}

// spoil overwrites all elements of a list, those behind its length too.
func spoil[T any](l []T, with T) {
	l = l[:cap(l)]
	for i := range l {
		l[i] = with
	}
}

func (a answers) spoil() {
	odd := api.Token{Rule: 77, Text: "z", At: 77}
	for _, l := range a.lists {
		spoil(l, odd)
	}
	spoil(a.notes, lanes.Note{Token: odd, Ahead: 77})
	spoil(a.texts, "z")
	spoil(a.rules, 77)
}

// P2, rule 4: arguments are neither modified nor kept, in their spare capacity neither, and what is returned shares nothing with them.
func TestArgumentsStayAsTheyAre(t *testing.T) {
	x := source(5)
	spare := []api.Token{{Rule: 2, Text: "#s", At: -9}, {Rule: 0, Text: "s", At: 2}, {Rule: 1, Text: "\n", At: 99}}
	for _, l := range samples() {
		other := x.tokens(6)
		all := [][]api.Token{append(slices.Clone(l), spare...), append(slices.Clone(other), spare...)}
		numbers := append(kinds(), 0, 1, 2)
		a, b, some := all[0][:len(l)], all[1][:len(other)], numbers[:len(kinds())]

		first := ask(some, a, b)
		want := first.copied()
		first.spoil()
		for i, part := range [][]api.Token{l, other} {
			if !slices.Equal(all[i], append(slices.Clone(part), spare...)) {
				t.Fatalf("tokens have changed: %v, before %v", all[i], part)
			}
		}
		if !slices.Equal(numbers, append(kinds(), 0, 1, 2)) {
			t.Fatalf("kinds have changed: %v", numbers)
		}
		again := ask(some, a, b)
		for _, part := range all {
			spoil(part, api.Token{Rule: 77, Text: "\n", At: 77})
		}
		spoil(numbers, 77)
		if !again.equal(want) {
			t.Fatalf("what was told of %v has changed", l)
		}
	}
}

// P2, rule 4: a call answers the same, whatever was called before.
func TestCallsAnswerTheSameAgain(t *testing.T) {
	all := samples()
	var before []answers
	for i, l := range all {
		before = append(before, ask(kinds(), l, all[len(all)-1-i]))
	}
	for i, l := range slices.Backward(all) {
		if !ask(kinds(), l, all[len(all)-1-i]).equal(before[i]) {
			t.Fatalf("other answers for %v", l)
		}
	}
}

// allocated returns how many bytes a call allocates, or somewhat more.
func allocated(call func()) uint64 {
	var before, after runtime.MemStats
	runtime.ReadMemStats(&before)
	call()
	runtime.ReadMemStats(&after)
	return after.TotalAlloc - before.TotalAlloc
}

// P2, rule 4: the texts of what is returned are not parts of the arguments, since they take memory of their own.
func TestTextsAreNew(t *testing.T) {
	long := strings.Repeat("a", 100000)
	l := []api.Token{{Rule: 2, Text: long}}
	for what, call := range map[string]func() string{
		"Of":      func() string { return lanes.Of(kinds(), l, api.Comment)[0].Text },
		"Notes":   func() string { return lanes.Notes(kinds(), l)[0].Text },
		"Texts":   func() string { return lanes.Texts(l)[0] },
		"Merge":   func() string { return lanes.Merge(l, nil)[0].Text },
		"Merge b": func() string { return lanes.Merge(nil, l)[0].Text },
	} {
		var s string
		if n := allocated(func() { s = call() }); n < 100000 || s != long {
			t.Errorf("%s: %d bytes", what, n)
		}
	}
}

// P1: every call ends and does not panic.
func TestEveryCallEnds(t *testing.T) {
	for _, some := range [][]int{nil, {}, {0}, {2}, {1, 2}, outside(), kinds()} {
		for _, l := range samples() {
			ask(some, l, l)
			ask(some, l, nil)
		}
	}
}

// many returns so many tokens, in rounds of these.
func many(count int, round ...api.Token) []api.Token {
	var l []api.Token
	for len(l) < count {
		l = append(l, round...)
	}
	return placed(l)
}

// P1: long lists, in which each comment lies far from what is around it or near to it, take no longer than a few walks through them.
func TestLongLists(t *testing.T) {
	const count = 1 << 19
	for _, c := range []struct {
		l      []api.Token
		before int
		behind int
	}{
		{many(count, one("#")), 1, 0},
		{many(count, one("#\n")), count, count},
		{many(count, one("a"), one("#")), 0, 0},
		{many(count, one("#"), one(" "), one(" "), one(" ")), 1, 0},
		{many(count, one("a"), one(" "), one("#"), one("\n")), 0, count / 4},
		{slices.Concat(many(count, one(" ")), row("#"), many(count, one(" "))), 1, 0},
		{slices.Concat(row("a"), many(count, one(" ")), row("#"), many(count, one(" "))), 0, 0},
		{slices.Concat(row("a", "\n"), many(count, one(" ")), row("#"), many(count, one(" ")), row("\n", "a")), 1, 1},
	} {
		var before, behind int
		for _, n := range lanes.Notes(kinds(), c.l) {
			if n.Before {
				before++
			}
			if n.Behind {
				behind++
			}
		}
		if before != c.before || behind != c.behind {
			t.Errorf("%d tokens, %q: %d and %d, want %d and %d", len(c.l), lanes.Texts(c.l[:3]), before, behind, c.before, c.behind)
		}
		if l := lanes.Merge(lanes.Of(kinds(), c.l, api.Comment), c.l); len(l) < len(c.l) {
			t.Errorf("%d tokens of %d", len(l), len(c.l))
		}
	}
}
