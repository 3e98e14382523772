package dfa_test

import (
	"math"
	"slices"
	"strings"
	"testing"

	"bosket/api"
	"bosket/byteset"
	"bosket/dfa"
)

// The example of the chapter: whether there is a state 3 or not.
func TestTheExample(t *testing.T) {
	for _, d := range []api.DFA{chain(5), chain(4), chain(3), good(), {}} {
		if got := dfa.Run(d, 3, ""); got != 3 {
			t.Errorf("Run from 3 with the empty string: %d: %s", got, told(d))
		}
	}
}

func TestConstants(t *testing.T) {
	if dfa.Dead != -1 || dfa.MaxRight != 32768 {
		t.Errorf("Dead is %d, MaxRight is %d", dfa.Dead, dfa.MaxRight)
	}
}

// P8.1: automata for which Right holds.
func TestRight(t *testing.T) {
	everyByte := api.DFA{Next: rows{make([]int, 256)}, Mark: []int{0}}
	for b := range 256 {
		everyByte.Class[b] = uint8(255 - b)
	}
	few := api.DFA{Next: rows{{0, -1, 0}}, Mark: []int{-1}} // the classes stand in no order
	for b := range 256 {
		few.Class[b] = 2
	}
	few.Class[0], few.Class[255] = 1, 0
	for _, d := range []api.DFA{
		good(), everyByte, few,
		{Next: rows{{-1}}, Mark: []int{-1}},
		{Next: rows{{0}}, Mark: []int{0}},
		{Next: rows{{1}, {1}}, Mark: []int{1<<15 - 1, -1}},
		{Next: rows{{-1}, {0}, {0}}, Mark: []int{4, 4, 4}}, // states that are not reached count too
		plain(rows{{-1, -1, -1}, {-1, -1, -1}}, -1, 0),
		chain(2), chain(2000), chain(2001), chain(1<<15 - 1), chain(1 << 15),
	} {
		if !dfa.Right(d) {
			t.Errorf("not Right: %s", told(d))
		}
	}
	for d := range small() {
		if !dfa.Right(d) {
			t.Fatalf("not Right: %s", told(d))
		}
	}
	for d := range bigger() {
		if !dfa.Right(d) {
			t.Fatalf("not Right: %s", told(d))
		}
	}
}

// P8.1: automata for which Right does not hold, each by one condition.
func TestWhereRightDoesNotHold(t *testing.T) {
	for _, f := range faults() {
		if dfa.Right(f.d) {
			t.Errorf("Right with %s: %s", f.what, told(f.d))
		}
	}
}

// P8.1: MaxRight states are permitted, and one more is not.
func TestMaxRight(t *testing.T) {
	most := chain(dfa.MaxRight)
	more := clone(most)
	more.Next, more.Mark = append(more.Next, []int{-1}), append(more.Mark, -1)
	if !dfa.Right(most) || dfa.Right(more) {
		t.Errorf("Right for MaxRight states: %v, for one more: %v", dfa.Right(most), dfa.Right(more))
	}
	most.Mark[0] = dfa.MaxRight - 1
	if !dfa.Right(most) {
		t.Error("not Right with the greatest mark")
	}
	most.Mark[0] = dfa.MaxRight
	if dfa.Right(most) {
		t.Error("Right with the mark MaxRight")
	}
}

// P8.1: Step of plain automata.
func TestStep(t *testing.T) {
	d := good()
	for _, c := range []struct {
		state int
		b     byte
		want  int
	}{
		{0, 'a', 1}, {0, 'b', 2}, {0, 'c', -1}, {0, 0, -1}, {0, 255, -1},
		{1, 'a', -1}, {1, 'b', 2}, {1, 'c', 0}, {1, 0, 0}, {1, 255, 0},
		{2, 'a', 2}, {2, 'b', -1}, {2, 'x', 2},
		{3, 'a', -1}, {4, 'b', -1}, {-1, 'a', -1}, {-1, 'x', -1}, {-2, 'b', -1},
	} {
		if got := dfa.Step(d, c.state, c.b); got != c.want {
			t.Errorf("Step(%d, %q): %d, want %d", c.state, c.b, got, c.want)
		}
	}
	for _, state := range odd() {
		for b := range 256 {
			if got := dfa.Step(d, state, byte(b)); got != -1 {
				t.Fatalf("Step(%d, %d): %d", state, b, got)
			}
		}
	}
}

// P8.1: Step of every byte, each of a class of its own.
func TestStepOfEveryByte(t *testing.T) {
	d := api.DFA{Next: make(rows, 256), Mark: make([]int, 256)}
	for b := range 256 {
		d.Class[b] = uint8(b * 3)
		for class := range 256 {
			d.Next[b] = append(d.Next[b], (class+b)%256)
		}
	}
	if !dfa.Right(d) {
		t.Fatal("not Right")
	}
	for state := range 256 {
		for b := range 256 {
			if got, want := dfa.Step(d, state, byte(b)), (b*3%256+state)%256; got != want {
				t.Fatalf("Step(%d, %d): %d, want %d", state, b, got, want)
			}
		}
	}
}

// P8.1: where Right does not hold, Step returns the number that is stored, or Dead if there is none.
func TestStepOfWhatIsStored(t *testing.T) {
	d := plain(rows{{7, -2, math.MinInt}, {math.MaxInt}, nil, {1, 2, 3, 4}})
	for _, c := range []struct {
		state int
		b     byte
		want  int
	}{
		{0, 'x', 7}, {0, 'a', -2}, {0, 'b', math.MinInt},
		{1, 'x', math.MaxInt}, {1, 'a', -1}, {1, 'b', -1},
		{2, 'x', -1}, {2, 'a', -1}, {2, 'b', -1},
		{3, 'x', 1}, {3, 'a', 2}, {3, 'b', 3},
		{4, 'x', -1}, {-1, 'a', -1},
	} {
		if got := dfa.Step(d, c.state, c.b); got != c.want {
			t.Errorf("Step(%d, %q): %d, want %d", c.state, c.b, got, c.want)
		}
	}
	d.Class['c'], d.Class['d'] = 3, 255
	if dfa.Step(d, 3, 'c') != 4 || dfa.Step(d, 3, 'd') != -1 || dfa.Step(d, 0, 'c') != -1 {
		t.Error("a class without a place in the row")
	}
	for _, f := range faults() {
		for state := -1; state < 5; state++ {
			for _, b := range []byte("abc\x00\xff") {
				if got, want := dfa.Step(f.d, state, b), stored(f.d, state, b); got != want {
					t.Errorf("Step(%d, %q): %d, want %d: %s", state, b, got, want, f.what)
				}
			}
		}
	}
}

// stored returns the number that stands in an automaton, or -1.
func stored(d api.DFA, state int, b byte) int {
	for number, row := range d.Next {
		for class, to := range row {
			if number == state && class == int(d.Class[b]) {
				return to
			}
		}
	}
	return -1
}

// P8.1: Run of plain automata.
func TestRun(t *testing.T) {
	d := good()
	for _, c := range []struct {
		state int
		s     string
		want  int
	}{
		{0, "", 0}, {1, "", 1}, {2, "", 2},
		{0, "a", 1}, {0, "ax", 0}, {0, "axa", 1}, {0, "ab", 2}, {0, "abx", 2}, {0, "b", 2}, {0, "bxaax", 2},
		{1, "b", 2}, {1, "xb", 2}, {2, "aaxx", 2},
		{0, "x", -1}, {0, "aa", -1}, {0, "abb", -1}, {2, "b", -1},
		{0, "xa", -1}, {0, "xab", -1}, {0, "aax", -1}, {0, "abba", -1}, {2, "ba", -1}, {2, "bbbb", -1}, // nothing leads on from nowhere
		{-1, "a", -1}, {3, "a", -1}, {-1, "xxx", -1}, {99, "b", -1}, {-2, "ab", -1},
	} {
		if got := dfa.Run(d, c.state, c.s); got != c.want {
			t.Errorf("Run(%d, %q): %d, want %d", c.state, c.s, got, c.want)
		}
	}
}

// P8.1: the empty string leads to the given state, whatever it is, and any other one leads nowhere from what is no state.
func TestRunFromWhatIsNoState(t *testing.T) {
	for _, d := range []api.DFA{good(), chain(2), {}, plain(rows{nil, {0}}, 3)} {
		for _, state := range append(odd(), 0, 1, 2, 3, 77) {
			if got := dfa.Run(d, state, ""); got != state {
				t.Errorf("Run(%d, \"\"): %d: %s", state, got, told(d))
			}
			for _, s := range []string{"a", "x", "abab", "\x00"} {
				if got := dfa.Run(d, state, s); (state < 0 || state >= len(d.Next)) && got != dfa.Dead {
					t.Errorf("Run(%d, %q): %d: %s", state, s, got, told(d))
				}
			}
		}
	}
}

// P8.1: the bytes of a string are no runes, and no byte ends it.
func TestRunReadsBytes(t *testing.T) {
	d := api.DFA{Class: classes("\xc3", "\xa9", "\xff", "\x00"), Next: rows{}}
	for state := range 9 {
		d.Next = append(d.Next, slices.Repeat([]int{-1}, 5))
		d.Mark = append(d.Mark, state)
	}
	step := func(from int, b byte, to int) { d.Next[from][d.Class[b]] = to }
	step(0, 0xc3, 1)
	step(1, 0xa9, 2)
	step(2, 0xff, 3)
	step(3, 0x00, 4)
	step(4, 0x00, 5)
	step(5, 'x', 6)
	step(6, 'y', 7)
	step(7, 0xa9, 8)
	s := "\xc3\xa9\xff\x00\x00xz\xa9"
	for n := range len(s) + 1 {
		if got := dfa.Run(d, 0, s[:n]); got != n {
			t.Errorf("Run(0, %q): %d, want %d", s[:n], got, n)
		}
		if got := dfa.Has(d, s[:n]); got != n {
			t.Errorf("Has(%q): %d, want %d", s[:n], got, n)
		}
	}
}

// P8.1: Run is Step of one byte after the other, where Right does not hold too.
func TestRunIsStepByStep(t *testing.T) {
	all := texts("abx", 4)
	check := func(d api.DFA) {
		for _, s := range all {
			for from := -2; from < 6; from++ {
				want := from
				for _, b := range []byte(s) {
					want = stored(d, want, b)
				}
				if got := dfa.Run(d, from, s); got != want {
					t.Fatalf("Run(%d, %q): %d, want %d: %s", from, s, got, want, told(d))
				}
			}
		}
	}
	check(good())
	for _, d := range wild() {
		check(d)
	}
	all = texts("abc\xff", 2)
	for d := range bigger() {
		check(d)
	}
}

// P8.1: long texts.
func TestRunOfLongTexts(t *testing.T) {
	d := chain(1 << 15)
	for _, n := range []int{1, 1000, 1<<15 - 2, 1<<15 - 1} {
		if got := dfa.Run(d, 0, strings.Repeat("q", n)); got != n {
			t.Errorf("Run of %d bytes: %d", n, got)
		}
	}
	if got := dfa.Run(d, 1, strings.Repeat("q", 1<<15-1)); got != dfa.Dead {
		t.Errorf("Run behind the last state: %d", got)
	}
	circle := plain(rows{{-1, 1, -1}, {-1, -1, 0}}, 3, -1)
	s := strings.Repeat("ab", 1<<19)
	if dfa.Run(circle, 0, s) != 0 || dfa.Has(circle, s) != 3 || dfa.Run(circle, 0, s+"a") != 1 || dfa.Run(circle, 0, s+"b") != -1 {
		t.Error("a long text around a circle")
	}
}

// P8.1: Mark.
func TestMark(t *testing.T) {
	d := good()
	for state, want := range []int{-1, 0, 7, -1, -1} {
		if got := dfa.Mark(d, state); got != want {
			t.Errorf("Mark(%d): %d, want %d", state, got, want)
		}
	}
	for _, state := range odd() {
		for _, d := range []api.DFA{d, chain(7), {}} {
			if got := dfa.Mark(d, state); got != -1 {
				t.Errorf("Mark(%d): %d: %s", state, got, told(d))
			}
		}
	}
	most := chain(1 << 15)
	most.Mark[1<<15-2] = 1<<15 - 1
	if dfa.Mark(most, 1<<15-1) != 5 || dfa.Mark(most, 1<<15-2) != 1<<15-1 || dfa.Mark(most, 0) != -1 {
		t.Error("Mark of MaxRight states")
	}
}

// P8.1: where Right does not hold, a state has the mark that is there for it, and there are no states but those of Next.
func TestMarkOfWhatIsStored(t *testing.T) {
	d := api.DFA{Next: rows{{0}, {1}, nil}, Mark: []int{-7, math.MaxInt, 1 << 15, 4, 5}}
	for state, want := range []int{-7, math.MaxInt, 1 << 15, -1, -1, -1} {
		if got := dfa.Mark(d, state); got != want {
			t.Errorf("Mark(%d): %d, want %d", state, got, want)
		}
	}
	d.Mark = []int{3}
	for state, want := range []int{3, -1, -1, -1} {
		if got := dfa.Mark(d, state); got != want {
			t.Errorf("Mark(%d) of too few: %d, want %d", state, got, want)
		}
	}
}

// P8.1: Has returns the mark of Run from 0.
func TestHas(t *testing.T) {
	for s, want := range map[string]int{
		"": -1, "a": 0, "ax": -1, "axa": 0, "b": 7, "ab": 7, "abx": 7, "x": -1, "aa": -1, "abb": -1, "abba": -1, "xa": -1,
	} {
		if got := dfa.Has(good(), s); got != want {
			t.Errorf("Has(%q): %d, want %d", s, got, want)
		}
	}
	if got := dfa.Has(plain(rows{{-1, -1, -1}}, 4), ""); got != 4 {
		t.Errorf("Has of the empty string: %d, want 4", got)
	}
	if dfa.Has(api.DFA{}, "") != -1 || dfa.Has(api.DFA{}, "a") != -1 {
		t.Error("Has of an automaton without states")
	}
	all := texts("ab\xff", 4)
	for d := range bigger() {
		for _, s := range all {
			if got, want := dfa.Has(d, s), after(d, s); got != want {
				t.Fatalf("Has(%q): %d, want %d: %s", s, got, want, told(d))
			}
		}
	}
	for _, d := range wild() {
		for _, s := range all {
			if got, want := dfa.Has(d, s), dfa.Mark(d, dfa.Run(d, 0, s)); got != want {
				t.Fatalf("Has(%q): %d, want %d: %s", s, got, want, told(d))
			}
		}
	}
}

// P8.1: Bytes of plain automata.
func TestBytes(t *testing.T) {
	others := byteset.Not(byteset.Of('a', 'b'))
	d := good()
	for _, c := range []struct {
		from, to int
		want     api.Set
	}{
		{0, 0, api.Set{}}, {0, 1, byteset.Of('a')}, {0, 2, byteset.Of('b')}, {0, dfa.Dead, others},
		{1, 0, others}, {1, 1, api.Set{}}, {1, 2, byteset.Of('b')}, {1, dfa.Dead, byteset.Of('a')},
		{2, 2, byteset.Not(byteset.Of('b'))}, {2, 0, api.Set{}}, {2, dfa.Dead, byteset.Of('b')},
		{0, 3, api.Set{}}, {1, -2, api.Set{}},
		// From what is no state there is no byte, not even one that leads nowhere.
		{3, 0, api.Set{}}, {3, dfa.Dead, api.Set{}}, {3, 3, api.Set{}}, {dfa.Dead, dfa.Dead, api.Set{}}, {-2, dfa.Dead, api.Set{}}, {-1, 0, api.Set{}},
	} {
		if got := dfa.Bytes(d, c.from, c.to); got != c.want {
			t.Errorf("Bytes(%d, %d): %q, want %q", c.from, c.to, byteset.List(got), byteset.List(c.want))
		}
	}
	for _, state := range odd() {
		if got := dfa.Bytes(d, state, dfa.Dead); got != (api.Set{}) {
			t.Errorf("Bytes(%d, Dead): %q", state, byteset.List(got))
		}
		if got := dfa.Bytes(d, 0, state); state != dfa.Dead && got != (api.Set{}) {
			t.Errorf("Bytes(0, %d): %q", state, byteset.List(got))
		}
	}
	if dfa.Bytes(chain(1), 0, dfa.Dead) != byteset.Full() || dfa.Bytes(chain(2), 0, 1) != byteset.Full() {
		t.Error("Bytes of all bytes")
	}
	if dfa.Bytes(api.DFA{}, 0, dfa.Dead) != (api.Set{}) || dfa.Bytes(api.DFA{}, 0, 0) != (api.Set{}) {
		t.Error("Bytes of an automaton without states")
	}
}

// P8.1: Bytes is told by Step, byte by byte, where Right does not hold too.
func TestBytesAreThoseOfStep(t *testing.T) {
	check := func(d api.DFA) {
		for from := range d.Next {
			for _, to := range append(odd(), 0, 1, 2, 3, 4, 5, 24) {
				got := dfa.Bytes(d, from, to)
				for b := range 256 {
					if byteset.Has(got, byte(b)) != (stored(d, from, byte(b)) == to) {
						t.Fatalf("Bytes(%d, %d): %q: %s", from, to, byteset.List(got), told(d))
					}
				}
			}
		}
	}
	check(good())
	for i, d := range wild() {
		if i < 60 {
			check(d)
		}
	}
	ragged := plain(rows{{0, 9}, {1, 2, 3, 4}})
	if dfa.Bytes(ragged, 0, dfa.Dead) != byteset.Of('b') || dfa.Bytes(ragged, 0, 9) != byteset.Of('a') || dfa.Bytes(ragged, 1, 4) != (api.Set{}) {
		t.Error("Bytes of rows of other lengths")
	}
}

// P8.1: every byte leads from a state to one place.
func TestBytesOfAllStates(t *testing.T) {
	for d := range bigger() {
		for from := range d.Next {
			all, n := api.Set{}, 0
			for to := -1; to < len(d.Next); to++ {
				s := dfa.Bytes(d, from, to)
				all, n = byteset.Or(all, s), n+byteset.Len(s)
			}
			if all != byteset.Full() || n != 256 {
				t.Fatalf("%d bytes lead from %d: %s", n, from, told(d))
			}
		}
	}
}
