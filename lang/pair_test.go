package lang_test

import (
	"slices"
	"testing"

	"bosket/api"
	"bosket/dfa"
	"bosket/lang"
)

// P10.1: the ways have their numbers.
func TestWays(t *testing.T) {
	if want := []int{0, 1, 2, 3}; !slices.Equal(ways(), want) {
		t.Errorf("%v, want %v", ways(), want)
	}
}

// P10.1: plain languages, text by text.
func TestPair(t *testing.T) {
	all := texts("abc", 5)
	for _, c := range []struct{ a, b string }{
		{"a*", "[ab]*b?"},
		{"a|bc", "bc|c"},
		{"(a|b)*abb", "(a|b)*bb"},
		{"a*b*c*", "c*b*a*"},
		{"ab*c", "a"},
		{"~", "a+"},
		{"(ab)*", "(aba)*"},
		{"[abc]*", "a[bc]a"},
		{"abc", "abc"},
	} {
		a, b := of(t, c.a), of(t, c.b)
		for _, how := range ways() {
			got := pair(t, how, a, b)
			for _, s := range all {
				if want := wanted(how, accepts(a, s), accepts(b, s)); accepts(got, s) != want {
					t.Errorf("%d of %s and %s: %q is accepted is %t", how, c.a, c.b, s, !want)
				}
			}
		}
	}
}

// exact checks all that P10.1 tells of a result.
func exact(t *testing.T, how int, a, b, got api.DFA) {
	t.Helper()
	if !dfa.Right(got) {
		t.Fatalf("not right: %s, for %d of %s and %s", told(got), how, told(a), told(b))
	}
	for _, mark := range got.Mark {
		if mark != -1 && mark != 0 {
			t.Fatalf("the mark %d: %s, for %d of %s and %s", mark, told(got), how, told(a), told(b))
		}
	}
	if s, is := wrong(how, a, b, got); is {
		t.Fatalf("%q is accepted is %t: %s, for %d of %s and %s", s, accepts(got, s), told(got), how, told(a), told(b))
	}
}

// P10.1: all small automata, of the same classes, of classes with other numbers, and of other classes.
func TestPairOfAllSmallAutomata(t *testing.T) {
	for k, other := range []string{"a", "b", "ab"} {
		for i, a := range small("a") {
			for j, b := range small(other) {
				if (i+2*j+k)%37 == 0 {
					how := (i + j/37) % 4
					exact(t, how, a, b, pair(t, how, a, b))
				}
			}
		}
	}
}

// P10.1: bigger automata, and each with itself.
func TestPairOfBiggerAutomata(t *testing.T) {
	others := slices.Collect(bigger(19))
	i := 0
	for a := range bigger(11) {
		b := others[i]
		i++
		for _, how := range ways() {
			exact(t, how, a, b, pair(t, how, a, b))
			exact(t, how, a, a, pair(t, how, a, a))
		}
	}
}

// P10.1: strings that only one automaton reads on are accepted where the other one is nowhere.
func TestPairWhereOneLeadsNowhere(t *testing.T) {
	a, b := only("a", chain(4)), only("b", chain(3))
	for _, c := range []struct {
		how  int
		want []string
	}{
		{lang.And, nil},
		{lang.Or, []string{"bb", "aaa"}},
		{lang.Less, []string{"aaa"}},
		{lang.Xor, []string{"bb", "aaa"}},
	} {
		got := pair(t, c.how, a, b)
		for _, s := range texts("ab", 6) {
			if accepts(got, s) != slices.Contains(c.want, s) {
				t.Errorf("%d: %q is accepted is %t", c.how, s, accepts(got, s))
			}
		}
	}
}

// P10.1: all bytes are classes of their own if each automaton tells some of them apart.
func TestPairOfManyClasses(t *testing.T) {
	digit := func(shift, first int) api.DFA {
		d := api.DFA{Next: rows{nil}, Mark: []int{-1}}
		for b := range 256 {
			d.Class[b] = uint8(b>>shift) % 16
		}
		for class := range 16 {
			d.Next[0] = append(d.Next[0], class+1)
			d.Next, d.Mark = append(d.Next, slices.Repeat([]int{-1}, 16)), append(d.Mark, max(class*3%7-first, -1))
		}
		return d
	}
	a, b := digit(0, 4), digit(4, 3)
	for _, how := range ways() {
		got := pair(t, how, a, b)
		exact(t, how, a, b, got)
		for i := range 256 {
			s := string([]byte{byte(i)})
			if want := wanted(how, i%16*3%7 >= 4, i/16*3%7 >= 3); accepts(got, s) != want {
				t.Errorf("%d: %q is accepted is %t", how, s, !want)
			}
		}
	}
}

// P10.1: ErrArg where Right does not hold for one or both, and for what is no way.
func TestPairOfWrongArguments(t *testing.T) {
	check := func(how int, a, b api.DFA, what string) {
		t.Helper()
		if got, err := lang.Pair(how, a, b); err != api.ErrArg || !equal(got, api.DFA{}) {
			t.Errorf("%s, error %d for %d with %s", told(got), err, how, what)
		}
	}
	for _, f := range faults() {
		for _, how := range ways() {
			check(how, f.d, good(), f.what)
			check(how, good(), f.d, f.what)
			check(how, f.d, f.d, f.what)
			check(how, f.d, chain(2001), f.what) // ErrArg is told ahead of ErrBig
			check(how, chain(2001), f.d, f.what)
		}
	}
	for _, how := range append(odd(), 4, 5, 255, 256) {
		check(how, good(), good(), "no such way")
		check(how, chain(2001), ring(3000), "no such way")
		check(how, api.DFA{}, good(), "no such way")
	}
}

// P10.1: ErrBig where more than 2000 pairs are reached; pairs of a state and nowhere count, for each of the ways.
func TestPairOfTooManyPairs(t *testing.T) {
	lost := chain(2001) // no pair leads to a mark
	lost.Mark[2000] = -1
	for _, c := range []struct {
		what string
		a, b api.DFA
		big  bool
	}{
		{"16 times 125 pairs", ring(16), ring(125), false},
		{"29 times 69 pairs", ring(29), ring(69), true},
		{"40 and 50 states in 200 pairs", ring(40), ring(50), false},
		{"2000 pairs, most of them with one state only", chain(2000), chain(1000), false},
		{"2001 pairs, most of them with one state only", chain(2001), chain(1000), true},
		{"1999 states of a ring, and twice the first one", ring(1999), chain(1), false},
		{"2000 states of a ring, and twice the first one", ring(2000), chain(1), true},
		{"a pair of two states, and 1999 of one", only("a", chain(1000)), only("b", chain(1001)), false},
		{"a pair of two states, and 2000 of one", only("a", chain(1001)), only("b", chain(1001)), true},
		{"2000 equal states", chain(2000), chain(2000), false},
		{"2001 equal states", chain(2001), chain(2001), true},
		{"2001 states without marks", lost, lost, true},
		{"2001 states without marks, and one", lost, plain(rows{{0, 0, 0}}, -1), true},
		{"very many states", ring(1 << 15), ring(1<<15 - 1), true},
	} {
		for _, how := range ways() {
			for range 2 {
				c.a, c.b = c.b, c.a
				got, err := lang.Pair(how, c.a, c.b)
				if c.big && (err != api.ErrBig || !equal(got, api.DFA{})) {
					t.Errorf("%s, error %d for %d with %s", told(got), err, how, c.what)
				}
				if !c.big {
					if err != api.OK {
						t.Fatalf("error %d for %d with %s", err, how, c.what)
					}
					exact(t, how, c.a, c.b, got)
				}
			}
		}
	}
}

// P10.1: what is one pair too many may be met by any byte.
func TestPairOfTooManyPairsOfFewStates(t *testing.T) {
	fan := func(states int) api.DFA { // the first states lead to all others, each byte to another one
		d := api.DFA{Next: make(rows, states), Mark: slices.Repeat([]int{-1}, states)}
		for b := range 256 {
			d.Class[b] = uint8(b)
		}
		next := 1
		for state := range d.Next {
			d.Next[state] = slices.Repeat([]int{-1}, 256)
			for b := 0; b < 256 && next < states; b++ {
				d.Next[state][b] = next
				next++
			}
		}
		d.Mark[states-1] = 8
		return d
	}
	for _, how := range ways() {
		if got := pair(t, how, fan(2000), chain(1)); len(got.Next) == 0 {
			t.Error("no states")
		}
		if got, err := lang.Pair(how, fan(2001), chain(1)); err != api.ErrBig || !equal(got, api.DFA{}) {
			t.Errorf("%s, error %d", told(got), err)
		}
	}
}

// P10.1: states that are not reached do not count.
func TestPairOfStatesThatAreNotReached(t *testing.T) {
	a, b := ring(1<<15), ring(1<<15)
	a.Next[6][0], b.Next[10][0] = 0, 0 // rings of 7 and of 11 states
	for _, how := range ways() {
		got := pair(t, how, a, b)
		exact(t, how, a, b, got)
		exact(t, how, ring(7), ring(11), got)
	}
}
