package munch_test

import (
	"math"
	"runtime"
	"slices"
	"strings"
	"testing"

	"bosket/api"
	"bosket/byteset"
	"bosket/munch"
)

// wild returns automata that are no plain ones in many ways: for none of them the functions are specified.
func wild() []api.DFA {
	l := []api.DFA{
		{}, {Next: rows{nil}}, {Mark: []int{3, 4}}, {Next: rows{{0}, {1}, nil, {2, 3}}, Mark: []int{4}}, {Next: rows{{0}}, Mark: []int{-2}},
		plain(rows{{-1, -2, math.MinInt}}, 0), plain(rows{{-1, 1, math.MaxInt}}, 0), plain(rows{{-1, 1, 1 << 15}}, 0),
		plain(rows{{0, 0}}, 0), plain(rows{{0, 0, 0, 0}}, 0), plain(rows{{0, 0, 0}}), plain(rows{{0, 0, 0}}, math.MinInt, math.MaxInt),
		{Class: [256]uint8{255: 255}, Next: rows{slices.Repeat([]int{0}, 256)}, Mark: []int{0}},
	}
	x := source(3)
	for range 300 {
		d := plain(nil)
		if x.below(3) == 0 {
			d.Class[x.below(256)] = uint8(x.below(256))
		}
		for range x.below(5) {
			var row []int
			for range x.below(5) {
				to := x.below(6) - 1
				if x.below(8) == 0 {
					to = outside(5)[x.below(15)]
				}
				row = append(row, to)
			}
			d.Next = append(d.Next, row)
		}
		for range x.below(6) {
			d.Mark = append(d.Mark, x.below(6)-2)
		}
		l = append(l, d)
	}
	return l
}

// P1: every call ends and does not panic.
func TestEveryCallEnds(t *testing.T) {
	all := append(texts("ab\x00", 3), strings.Repeat("a", 1000), strings.Repeat("ab", 700), strings.Repeat("\xff\x00b", 300), strings.Repeat("a", 1<<17))
	for _, d := range append(wild(), slices.Collect(bigger(5, 100))...) {
		for _, s := range all {
			for _, at := range append(outside(len(s)), 0, 1, len(s)/2, len(s)) {
				munch.Longest(d, s, at)
				munch.Sure(d, s, at)
			}
			munch.Alone(d, s)
			if l, at, err := munch.All(d, s); err == api.OK && at != len(s) || munch.Text(l) != s[:at] {
				t.Fatalf("%.50q: %s, %d, error %d: %s", s, listed(l), at, err, told(d))
			}
		}
	}
}

// P1: as many states and classes as there may be.
func TestGreatAutomata(t *testing.T) {
	d := api.DFA{Next: make(rows, 1<<15), Mark: slices.Repeat([]int{-1}, 1<<15)}
	for b := range 256 {
		d.Class[b] = uint8(b)
	}
	for state := range d.Next {
		d.Next[state] = make([]int, 256)
		for class := range 256 {
			d.Next[state][class] = (state*(class+3) + class + 1) % (1 << 15)
		}
	}
	for state := 1; state < 1<<15; state += 3 {
		d.Mark[state] = 1<<15 - 1
	}
	x := source(6)
	var letters []byte
	for b := range 256 {
		letters = append(letters, byte(b))
	}
	for range 20 {
		s := x.text(string(letters), 400)
		for at := range len(s) + 1 {
			wantMark, wantLength := longest(d, s, at)
			if mark, length := munch.Longest(d, s, at); mark != wantMark || length != wantLength || munch.Sure(d, s, at) != len(s) {
				t.Fatalf("%q at %d: %d, %d, want %d, %d", s, at, mark, length, wantMark, wantLength)
			}
		}
	}
	if n := byteset.Count(d.Class); n != 256 {
		t.Error(n)
	}
}

// samples returns texts of all kinds for the automata.
func samples() []string {
	x := source(8)
	l := append(texts("ab", 3), strings.Repeat("a", 700), strings.Repeat("a", 700)+"b", strings.Repeat("ab", 500)+"c", strings.Repeat("c", 65537))
	for range 10 {
		l = append(l, x.text("abc\x00\xff", 30))
	}
	return l
}

// answers are what the functions return for an automaton and a text.
type answers struct {
	numbers []int
	tokens  []api.Token
	at      int
	err     api.Errno
}

func ask(d api.DFA, s string) answers {
	var a answers
	for at := range min(len(s), 10) + 1 {
		mark, length := munch.Longest(d, s, at)
		a.numbers = append(a.numbers, mark, length, munch.Sure(d, s, at))
	}
	a.numbers = append(a.numbers, munch.Alone(d, s))
	a.tokens, a.at, a.err = munch.All(d, s)
	return a
}

func (a answers) equal(b answers) bool {
	return slices.Equal(a.numbers, b.numbers) && slices.Equal(a.tokens, b.tokens) && a.at == b.at && a.err == b.err
}

// spoil overwrites all elements of a list, those behind its length too.
func spoil[T any](l []T, with T) {
	l = l[:cap(l)]
	for i := range l {
		l[i] = with
	}
}

// roomy returns an automaton whose lists have spare capacity, and these lists at their full lengths, the marks last.
func roomy(d api.DFA) (api.DFA, rows) {
	var next, full rows
	for _, row := range d.Next {
		long := append(slices.Clone(row), 0, 1, -1, 0)
		next, full = append(next, long[:len(row)]), append(full, long)
	}
	next = append(next, []int{1, 2}, []int{3}, nil)
	mark := append(slices.Clone(d.Mark), 0, 1, 2)
	d.Next, d.Mark = next[:len(d.Next)], mark[:len(d.Mark)]
	return d, append(full, mark)
}

// P2, rule 4: an automaton is neither modified nor kept, and tokens are new.
func TestArgumentsStayAsTheyAre(t *testing.T) {
	for sample := range bigger(7, 200) {
		for _, s := range samples() {
			d, full := roomy(sample)
			before := clone(api.DFA{Next: full})
			spareBefore := slices.Clone(d.Next[:cap(d.Next)])

			first := ask(d, s)
			want := first
			want.tokens = slices.Clone(first.tokens)
			spoil(first.tokens, api.Token{Rule: 77, Text: "z"})
			if !equal(before, api.DFA{Next: full}) || !equal(d, sample) || !slices.EqualFunc(spareBefore, d.Next[:cap(d.Next)], slices.Equal) {
				t.Fatalf("an automaton has changed: %s, before %s", told(d), told(sample))
			}
			again := ask(d, s)
			for _, row := range full {
				spoil(row, 0)
			}
			if !again.equal(want) {
				t.Fatalf("what was told of %.50q has changed: %s", s, told(sample))
			}
		}
	}
}

// P2, rule 4: Text and Same leave the tokens as they are, those in spare capacity too.
func TestTokensStayAsTheyAre(t *testing.T) {
	x := source(10)
	for range 300 {
		var all []api.Token
		for range 6 {
			all = append(all, api.Token{Rule: x.below(3), Text: x.text("ab", 2), At: x.below(4)})
		}
		before := slices.Clone(all)
		n, from := x.below(7), x.below(4)
		text, same := munch.Text(all[:n]), munch.Same(all[:n], all[from:from+3])
		if !slices.Equal(all, before) {
			t.Fatalf("%s, before %s", listed(all), listed(before))
		}
		if text != munch.Text(before[:n]) || same != munch.Same(before[from:from+3], before[:n]) {
			t.Fatalf("other answers for %s", listed(all))
		}
	}
}

// allocated returns how many bytes a call allocates, or somewhat more.
func allocated(call func()) uint64 {
	var before, after runtime.MemStats
	runtime.ReadMemStats(&before)
	call()
	runtime.ReadMemStats(&after)
	return after.TotalAlloc - before.TotalAlloc
}

// P2, rule 4: the texts of tokens, and the Text of a single one, are not parts of the argument, since they take memory of their own.
func TestTextsAreNew(t *testing.T) {
	d := machine(t, "a+", "b")
	s := strings.Repeat("a", 65000) + "b"
	var l []api.Token
	var text string
	if n := allocated(func() { l, _, _ = munch.All(d, s) }); n < 65001 {
		t.Errorf("All: %d bytes", n)
	}
	if n := allocated(func() { text = munch.Text(l[:1]) }); n < 65000 {
		t.Errorf("Text: %d bytes", n)
	}
	if len(l) != 2 || text != s[:65000] {
		t.Errorf("%s", listed(l))
	}
}

// P2: a call answers the same, whatever was called before, and calls that failed are not to be noticed.
func TestCallsAnswerTheSameAgain(t *testing.T) {
	automata := append(slices.Collect(bigger(12, 60)), machine(t, "a", "(aa)*b"), machine(t, "aa?", "[abc]*x"))
	var before []answers
	for _, d := range automata {
		for _, s := range samples() {
			before = append(before, ask(d, s))
		}
	}
	for _, d := range slices.Backward(automata) {
		for _, s := range slices.Backward(samples()) {
			last := len(before) - 1
			if !ask(d, s).equal(before[last]) {
				t.Fatalf("other answers for %.50q: %s", s, told(d))
			}
			before = before[:last]
		}
	}
}
