package lang_test

import (
	"math/big"
	"slices"
	"testing"

	"bosket/api"
	"bosket/lang"
)

// P10.3: plain languages.
func TestCount(t *testing.T) {
	for _, c := range []struct {
		text          string
		n, most, want int
	}{
		{"[ab]*", 5, 100, 32},
		{"[ab]*", 5, 33, 32},
		{"[ab]*", 5, 32, 32},
		{"[ab]*", 5, 31, 31},
		{"[ab]*", 5, 1, 1},
		{"[ab]*", 5, 0, 0},
		{"[ab]*", 0, 100, 1},
		{"[ab]*", 0, 1, 1},
		{"[ab]*", 0, 0, 0},
		{"[ab]+", 0, 100, 0},
		{"[ab]*", 29, 1 << 30, 1 << 29},
		{"[ab]*", 30, 1 << 30, 1 << 30},
		{"[ab]*", 30, 1<<30 - 1, 1<<30 - 1},
		{"[ab]*", 31, 1 << 30, 1 << 30},
		{"[ab]*", 1000, 1 << 30, 1 << 30},
		{"[ab]*", 1000, 7, 7},
		{"a*", 1000, 1 << 30, 1},
		{"a*b*", 1000, 1 << 30, 1001},
		{"a*b*", 1000, 1001, 1001},
		{"a*b*", 1000, 1000, 1000},
		{"a*b*c*", 1000, 1 << 30, 501501},
		{"a*b*c*d*", 1000, 1 << 30, 167668501},
		{"a*b*c*d*e*", 1000, 1 << 30, 1 << 30},
		{"a|bc", 0, 9, 0},
		{"a|bc", 1, 9, 1},
		{"a|bc", 2, 9, 1},
		{"a|bc", 3, 9, 0},
		{"[\\x00-\\xff]", 1, 1000, 256},
		{"[\\x00-\\xff][\\x80-\\xff]", 2, 1 << 30, 32768},
		{"([\\x00-\\xff][\\x00-\\xff])*", 2, 1 << 30, 65536},
		{"([\\x00-\\xff][\\x00-\\xff])*", 999, 1 << 30, 0},
		{"([\\x00-\\xff][\\x00-\\xff])*", 1000, 1 << 30, 1 << 30},
		{"(aa)*|(aaa)*", 6, 9, 1},
		{"(aaaaa)*b?", 1000, 9, 1},
		{"(aaaaa)*b?", 996, 9, 1},
		{"(aaaaa)*b?", 997, 9, 0},
	} {
		if got := lang.Count(of(t, c.text), c.n, c.most); got != c.want {
			t.Errorf("Count of %s, %d, %d: %d, want %d", c.text, c.n, c.most, got, c.want)
		}
	}
}

// P10.3: 0 where Right does not hold, or n or most are not within their limits.
func TestCountOfWrongArguments(t *testing.T) {
	for _, f := range faults() {
		for n := range 4 {
			if got := lang.Count(f.d, n, 1<<30); got != 0 {
				t.Errorf("%d with %s", got, f.what)
			}
		}
	}
	all := plain(rows{{0, 0, 0}}, 0)
	for _, n := range append(odd(), 1001, 1002, 2000) {
		if got := lang.Count(all, n, 10); got != 0 {
			t.Errorf("%d of %d bytes", got, n)
		}
	}
	for _, most := range append(odd(), 0, 1<<30+1) {
		if most > 0 && most < 1<<30 {
			continue
		}
		for _, n := range []int{0, 1, 1000} {
			if got := lang.Count(all, n, most); got != 0 {
				t.Errorf("%d of %d bytes, at most %d", got, n, most)
			}
		}
	}
	for _, n := range []int{0, 1, 999, 1000} {
		for _, most := range []int{1, 1 << 15, 1 << 30} {
			want := most
			if n == 0 {
				want = 1
			} else if n == 1 {
				want = min(most, 256)
			}
			if got := lang.Count(all, n, most); got != want {
				t.Errorf("%d of %d bytes, at most %d", got, n, most)
			}
		}
	}
}

// P10.3: all small automata, string by string.
func TestCountOfAllSmallAutomata(t *testing.T) {
	var all []string
	for i := range 256 {
		all = append(all, string([]byte{byte(i)}))
	}
	two := texts(string([]byte{0, 'a', 'b', 255}), 2) // a, and three bytes of the other class
	for _, d := range small("a") {
		want := 0
		for _, s := range all {
			want += number(accepts(d, s))
		}
		if got := lang.Count(d, 1, 1<<30); got != want {
			t.Fatalf("%d, want %d, for %s", got, want, told(d))
		}
		want = 0
		for _, s := range two {
			if len(s) == 2 && accepts(d, s) {
				want += weight(s[0]) * weight(s[1])
			}
		}
		if got := lang.Count(d, 2, 1<<30); got != want {
			t.Fatalf("%d, want %d, for %s", got, want, told(d))
		}
		if got := lang.Count(d, 0, 1<<30); got != number(accepts(d, "")) {
			t.Fatalf("%d for %s", got, told(d))
		}
	}
}

// weight returns three times as many bytes as one of four stands for: a for itself, and each of the others for 85.
func weight(b byte) int {
	if b == 'a' {
		return 1
	}
	return 85
}

// P10.3: bigger automata, against a model that counts without a bound.
func TestCountAgainstAModel(t *testing.T) {
	x := source(31)
	for d := range bigger(41) {
		n := x.below(12)
		exact := counted(d, n)
		for _, most := range []int{1 << 30, 1, x.below(1000), x.below(1 << 30), capped(exact, 1<<30)} {
			if got, want := lang.Count(d, n, most), capped(exact, most); got != want {
				t.Fatalf("Count of %d, %d: %d, want %d, for %s", n, most, got, want, told(d))
			}
		}
	}
}

// thin returns an automaton in which few bytes lead on, so that counts grow slowly.
func thin(x *source) api.DFA {
	d := api.DFA{Class: renumbered(classes("a", "b"), x)}
	states := 2 + x.below(12)
	for range states {
		row := []int{-1, -1, -1}
		row[d.Class['a']] = x.below(states)
		if x.below(6) == 0 {
			row[d.Class['b']] = x.below(states)
		}
		d.Next, d.Mark = append(d.Next, row), append(d.Mark, x.below(3)-1)
	}
	return d
}

// P10.3: long strings in automata whose counts grow slowly, stay, or come round again after some lengths.
func TestCountOfLongStrings(t *testing.T) {
	x := source(37)
	for range 40 {
		d := thin(&x)
		for _, n := range []int{0, 1, 2, 3, 40 + x.below(60), 100 + x.below(901)} {
			exact := counted(d, n)
			for _, most := range []int{1 << 30, 1 << 29, 1, 2, 3, x.below(100)} {
				if got, want := lang.Count(d, n, most), capped(exact, most); got != want {
					t.Fatalf("Count of %d, %d: %d, want %d, for %s", n, most, got, want, told(d))
				}
			}
		}
	}
}

// P10.3: counts that come round again after each number of lengths, at once and after some others.
func TestCountOfRings(t *testing.T) {
	for _, size := range []int{1, 2, 3, 4, 5, 7, 8, 9, 31, 32, 33, 127, 128, 129, 499, 500, 501, 512, 513, 999, 1000, 1001, 1002} {
		d := only("a", ring(size))
		for n := range 1001 {
			if size > 10 && n < 990 && (n+1)%size > 2 {
				continue // only what is close to a whole round
			}
			if got := lang.Count(d, n, 5); got != number(n%size == 0) {
				t.Fatalf("%d strings of %d bytes, for a ring of %d", got, n, size)
			}
		}
	}
	for _, ahead := range []int{1, 2, 3, 10, 63, 64, 65, 300} { // states ahead of the ring
		for _, size := range []int{1, 2, 3, 6, 16, 17, 100} {
			d := only("b", chain(ahead+size))
			d.Next[ahead+size-1][1] = ahead
			for n := range 1001 {
				if n > ahead && n < 990 && (n-ahead+2)%size > 2 {
					continue
				}
				want := number(n >= ahead && (n-ahead)%size == size-1)
				if got := lang.Count(d, n, 5); got != want {
					t.Fatalf("%d strings of %d bytes, for a ring of %d behind %d states", got, n, size, ahead)
				}
			}
		}
	}
}

// P10.3: strings of two rings, and of none.
func TestCountOfPairsOfRings(t *testing.T) {
	d := pair(t, lang.Xor, only("a", ring(31)), only("a", ring(33)))
	for n := 0; n <= 1000; n += 1 + n/300*10 {
		if got := lang.Count(d, n, 5); got != number((n%31 == 0) != (n%33 == 0)) {
			t.Errorf("%d strings of %d bytes", got, n)
		}
	}
}

// P10.3: as many states and classes as there may be.
func TestGreatAutomata(t *testing.T) {
	all := func(int) int { return 0 }
	odd := func(state int) int { return state%2 - 1 }
	last := func(state int) int { return (state+1)>>15 - 1 }
	mixed := func(state, class int) int { return (state*(class+3) + class*class + 1) % (1 << 15) }
	sides := func(state, class int) int { return (state + 1 + 2*((state*7+class*class)%(1<<14))) % (1 << 15) } // from even to odd ones, and back
	slow := func(state, class int) int { return min(state+class, 1<<15-1) }
	ahead := func(state, class int) int {
		if state == 1<<15-1 {
			return -1
		}
		return min(state+1+class, 1<<15-1)
	}
	for _, c := range []struct {
		d      api.DFA
		finite bool
		counts map[int]int // by lengths
	}{
		{great(all, mixed), false, map[int]int{3: 1 << 24, 1000: 1 << 30}},
		{great(odd, sides), false, map[int]int{3: 1 << 24, 999: 1 << 30, 1000: 0}},
		{great(all, slow), false, map[int]int{1000: 1 << 30}},
		{great(last, slow), false, map[int]int{128: 0, 129: 1 << 30}}, // 128 times 255 is less than 2^15 - 1
		{great(last, ahead), true, map[int]int{127: 0, 128: 129}},     // 128 times 256 is 2^15: one byte may lead on by one less
	} {
		for n, want := range c.counts {
			if got := lang.Count(c.d, n, 1<<30); got != want {
				t.Errorf("%d strings of %d bytes, want %d", got, n, want)
			}
		}
		if got := lang.Finite(c.d); got != c.finite {
			t.Errorf("Finite is %t", got)
		}
	}
}

// P10.3: all counts of an automaton that has few strings add up to their number.
func TestCountsAddUp(t *testing.T) {
	d := of(t, "(a|b|c)(d|~)(e?f?g?)[x-z]?")
	sum := 0
	for n := range 20 {
		sum += lang.Count(d, n, 1<<30)
	}
	if sum != 3*2*8*4 || !lang.Finite(d) {
		t.Errorf("%d strings", sum)
	}
}

// P10.3: plain languages.
func TestFinite(t *testing.T) {
	for _, c := range []struct {
		text string
		want bool
	}{
		{"~", true},
		{"a", true},
		{"a|bc", true},
		{"[\\x00-\\xff][\\x00-\\xff]?", true},
		{"a?b?c?d?e?", true},
		{"a*", false},
		{"a+", false},
		{"a|b*", false},
		{"ab*c", false},
		{"(ab)*", false},
		{"~*", true},
		{"(~|~)+a", true},
	} {
		if got := lang.Finite(of(t, c.text)); got != c.want {
			t.Errorf("%t for %s", got, c.text)
		}
	}
}

// P10.3: only circles through states count that are reached and lead to a mark.
func TestFiniteWithCircles(t *testing.T) {
	for _, c := range []struct {
		what string
		d    api.DFA
		want bool
	}{
		{"no mark, no circle", plain(rows{{-1, -1, -1}}, -1), true},
		{"no mark, a circle", plain(rows{{0, 0, 0}}, -1), true},
		{"a mark, a circle", plain(rows{{-1, -1, 0}}, 1), false},
		{"a circle behind the mark", plain(rows{{-1, 1, -1}, {-1, 2, -1}, {2, 2, 2}}, -1, 0, -1), true},
		{"a circle ahead of the mark", plain(rows{{0, 1, -1}, {-1, 2, -1}, {-1, -1, -1}}, -1, -1, 0), false},
		{"a circle of three", plain(rows{{-1, 1, -1}, {-1, 2, -1}, {-1, 0, -1}}, -1, 0, -1), false},
		{"a circle behind the first state", plain(rows{{-1, 1, -1}, {-1, 2, 3}, {-1, 1, -1}, {-1, -1, -1}}, -1, -1, -1, 8), false},
		{"a circle that is not reached", plain(rows{{-1, 1, -1}, {-1, -1, -1}, {2, 2, 1}}, -1, 0, 3), true},
		{"a circle that is not reached, through 0", plain(rows{{-1, 1, -1}, {-1, -1, -1}, {2, 0, 1}}, -1, 0, 3), true},
		{"a circle that is reached from 0 but leads to no mark", plain(rows{{1, 2, 1}, {1, 1, 1}, {1, 1, -1}}, -1, -1, 0), true},
		{"many ways, no circle", plain(rows{{1, 2, 3}, {2, 3, 3}, {3, 3, 3}, {-1, -1, -1}}, 0, 0, 0, 0), true},
		{"many states without a circle", chain(1 << 15), true},
		{"many states in a circle", ring(1 << 15), false},
	} {
		if got := lang.Finite(c.d); got != c.want {
			t.Errorf("%t with %s", got, c.what)
		}
	}
}

// P10.3: true where Right does not hold.
func TestFiniteWhereRightDoesNotHold(t *testing.T) {
	for _, f := range faults() {
		if !lang.Finite(f.d) {
			t.Errorf("false with %s", f.what)
		}
	}
	d := ring(1<<15 + 1)
	if !lang.Finite(d) {
		t.Error("false with a ring of too many states")
	}
}

// P10.3: all small automata and bigger ones, against a model.
func TestFiniteAgainstAModel(t *testing.T) {
	l := append(small("a"), slices.Collect(bigger(13))...)
	l = slices.AppendSeq(l, sized(3, classes("a")))
	x := source(43)
	for range 500 {
		l = append(l, thin(&x))
	}
	for _, d := range l {
		if got, want := lang.Finite(d), finite(d); got != want {
			t.Fatalf("%t, want %t, for %s", got, want, told(d))
		}
	}
}

// P10.3: finitely many strings are all shorter than there are states, so that none is counted from there on.
func TestFiniteAndCount(t *testing.T) {
	for d := range bigger(17) {
		var sum big.Int
		for n := len(d.Next); n < 2*len(d.Next); n++ {
			sum.Add(&sum, big.NewInt(int64(lang.Count(d, n, 1<<30))))
		}
		if lang.Finite(d) != (sum.Sign() == 0) {
			t.Fatalf("Finite is %t, but %s strings: %s", lang.Finite(d), sum.String(), told(d))
		}
	}
}
