package lang_test

import (
	"slices"
	"testing"

	"bosket/api"
	"bosket/lang"
)

// samples returns automata of all kinds, those for which Right does not hold too.
func samples() []api.DFA {
	l := append(wild(), good(), chain(1), chain(2), chain(100), ring(70), only("a", ring(31)))
	for _, f := range faults() {
		if len(f.d.Next) < 1000 {
			l = append(l, f.d)
		}
	}
	for d := range bigger(23) {
		if l = append(l, d); len(l) > 900 {
			break
		}
	}
	return l
}

// answers are what all functions return for two automata.
type answers struct {
	pairs         []api.DFA
	errs          []api.Errno
	equal, within comparison
	shortest      string
	is            [3]bool
	counts        []int
}

func ask(a, b api.DFA) answers {
	l := answers{equal: equalOf(a, b), within: withinOf(a, b)}
	for _, how := range append(ways(), -1, 4) {
		d, err := lang.Pair(how, a, b)
		l.pairs, l.errs = append(l.pairs, d), append(l.errs, err)
	}
	l.shortest, l.is[0] = lang.Shortest(a)
	l.is[1], l.is[2] = lang.Empty(a), lang.Finite(a)
	for _, n := range []int{0, 1, 5, 1000} {
		l.counts = append(l.counts, lang.Count(a, n, 1<<30), lang.Count(a, n, 9))
	}
	return l
}

func (l answers) same(m answers) bool {
	return slices.EqualFunc(l.pairs, m.pairs, equal) && slices.Equal(l.errs, m.errs) && l.equal == m.equal && l.within == m.within &&
		l.shortest == m.shortest && l.is == m.is && slices.Equal(l.counts, m.counts)
}

// copied returns answers that share nothing with these.
func (l answers) copied() answers {
	var pairs []api.DFA
	for _, d := range l.pairs {
		pairs = append(pairs, clone(d))
	}
	l.pairs = pairs
	return l
}

// spoil overwrites all elements of a list, those behind its length too.
func spoil[T any](l []T, with T) {
	l = l[:cap(l)]
	for i := range l {
		l[i] = with
	}
}

// spoil overwrites everything that the answers hold.
func (l answers) spoil() {
	for _, d := range l.pairs {
		for _, row := range d.Next {
			spoil(row, 77)
		}
		spoil(d.Next, nil)
		spoil(d.Mark, 77)
	}
}

// P1: every call ends and does not panic.
func TestEveryCallEnds(t *testing.T) {
	all := samples()
	for i, a := range all {
		b := all[(i*7+3)%len(all)]
		ask(a, b)
		for _, x := range odd() {
			lang.Pair(x, a, b)
			lang.Count(a, x, 5)
			lang.Count(a, 5, x)
			lang.Count(a, x, x)
		}
	}
	for _, d := range []api.DFA{chain(1 << 15), ring(1 << 15), chain(1<<15 + 1), ring(1 << 17)} {
		ask(d, good())
		ask(good(), d)
		ask(d, d)
	}
}

// roomy returns an automaton whose lists have spare capacity, and these lists at their full lengths.
func roomy(d api.DFA) (api.DFA, rows) {
	var next, full rows
	for _, row := range d.Next {
		long := append(slices.Clone(row), 0, 1, -1, 0)
		next, full = append(next, long[:len(row)]), append(full, long)
	}
	next = append(next, []int{1, 2}, []int{3}, nil)
	mark := append(slices.Clone(d.Mark), 0, 1, 2)
	d.Next, d.Mark = next[:len(d.Next)], mark[:len(d.Mark)]
	return d, append(full, mark)
}

// P2, rule 4: arguments are neither modified nor kept, not even behind their lengths, and results are new.
func TestArgumentsStayAsTheyAre(t *testing.T) {
	all := samples()
	for i, sample := range all {
		d, full := roomy(sample)
		other := all[(i*5+2)%len(all)]
		before := clone(api.DFA{Next: full})
		rowsBefore := slices.Clone(d.Next[:cap(d.Next)])

		there, back := ask(d, other), ask(other, d)
		wantThere, wantBack := there.copied(), back.copied()
		there.spoil()
		back.spoil()
		if !equal(before, api.DFA{Next: full}) || !equal(d, sample) || !slices.EqualFunc(rowsBefore, d.Next[:cap(d.Next)], slices.Equal) {
			t.Fatalf("an automaton has changed: %s, before %s", told(d), told(sample))
		}
		there, back = ask(d, other), ask(other, d)
		for _, row := range full {
			spoil(row, 88)
		}
		spoil(d.Next, []int{88})
		if !there.same(wantThere) || !back.same(wantBack) {
			t.Fatalf("what was told of %s has changed", told(sample))
		}
	}
}

// P2, rule 4: no two lists of a result share anything, not even behind their lengths.
func TestListsOfAResultShareNothing(t *testing.T) {
	for _, how := range ways() {
		d := pair(t, how, ring(20), only("a", chain(15)))
		want := clone(d)
		for i := range d.Next {
			spoil(d.Next[i], 77)
			for k, row := range d.Next {
				if k > i && !slices.Equal(row, want.Next[k]) {
					t.Fatalf("the row %d has changed with the row %d", k, i)
				}
			}
			if !slices.Equal(d.Mark, want.Mark) {
				t.Fatalf("the marks have changed with the row %d", i)
			}
		}
	}
}

// P2: a call answers the same, whatever was called before.
func TestCallsAnswerTheSameAgain(t *testing.T) {
	all := samples()
	var before []answers
	for i, d := range all {
		before = append(before, ask(d, all[len(all)-1-i]))
	}
	for i, d := range slices.Backward(all) {
		if !ask(d, all[len(all)-1-i]).same(before[i]) {
			t.Fatalf("other answers for %s", told(d))
		}
	}
}
