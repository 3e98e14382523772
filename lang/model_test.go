package lang_test

import (
	"fmt"
	"iter"
	"math"
	"math/big"
	"slices"
	"testing"

	"bosket/api"
	"bosket/byteset"
	"bosket/lang"
	"bosket/nfa"
	"bosket/rex"
	"bosket/subset"
)

// classes returns the classes of sets of bytes.
func classes(sets ...string) [256]uint8 {
	var l []api.Set
	for _, s := range sets {
		l = append(l, byteset.Of([]byte(s)...))
	}
	return byteset.Classes(l...)
}

type rows = [][]int

// plain returns an automaton over the classes a and b (1 and 2; all other bytes are of class 0).
func plain(next rows, mark ...int) api.DFA {
	return api.DFA{Class: classes("a", "b"), Next: next, Mark: mark}
}

// told returns an automaton for messages.
func told(d api.DFA) string {
	counts := map[uint8]int{}
	for _, class := range d.Class {
		counts[class]++
	}
	return fmt.Sprintf("%d states, bytes by classes %v, %v, marks %v", len(d.Next), counts, d.Next[:min(len(d.Next), 20)], d.Mark[:min(len(d.Mark), 20)])
}

// equal holds two automata against each other, without the help of the package.
func equal(a, b api.DFA) bool {
	return a.Class == b.Class && slices.EqualFunc(a.Next, b.Next, slices.Equal) && slices.Equal(a.Mark, b.Mark)
}

// clone returns an automaton that shares nothing with the one that was given.
func clone(d api.DFA) api.DFA {
	next := d.Next
	d.Next, d.Mark = nil, slices.Clone(d.Mark)
	for _, row := range next {
		d.Next = append(d.Next, slices.Clone(row))
	}
	return d
}

// texts returns all texts of the letters, up to a length, the shortest first.
func texts(letters string, length int) []string {
	all := []string{""}
	for i := 0; len(all[i]) < length; i++ {
		for _, c := range []byte(letters) {
			all = append(all, all[i]+string([]byte{c}))
		}
	}
	return all
}

// odd returns numbers that are no way, and beyond all limits.
func odd() []int {
	return []int{-1, -2, -3, math.MinInt, math.MinInt + 1, math.MaxInt, math.MaxInt - 1, 1 << 15, 1 << 31, 1 << 32, 1<<32 + 1, -1 << 31, -1 << 32}
}

// numbersTo returns all rows of so many numbers from -1 to one less than a bound.
func numbersTo(bound, length int) [][]int {
	l := [][]int{nil}
	for range length {
		var longer [][]int
		for _, row := range l {
			for x := -1; x < bound; x++ {
				longer = append(longer, append(slices.Clone(row), x))
			}
		}
		l = longer
	}
	return l
}

// sized yields all automata of so many states, with or without the mark 4, over the classes.
func sized(states int, class [256]uint8) iter.Seq[api.DFA] {
	count := byteset.Count(class)
	return func(yield func(api.DFA) bool) {
		for _, entries := range numbersTo(states, states*count) {
			next := slices.Collect(slices.Chunk(entries, count))
			for _, mark := range numbersTo(1, states) {
				d := clone(api.DFA{Class: class, Next: next, Mark: mark})
				for state := range d.Mark {
					d.Mark[state] = 5*d.Mark[state] + 4
				}
				if !yield(d) {
					return
				}
			}
		}
	}
}

// small returns all automata of up to two states for which Right holds, over all bytes as one class or over a letter and all others; the class of the letter is 0 or 1.
func small(letter string) []api.DFA {
	var l []api.DFA
	for states := range 2 {
		l = slices.AppendSeq(l, sized(states+1, classes()))
		l = slices.AppendSeq(l, sized(states+1, classes(letter)))
		l = slices.AppendSeq(l, sized(states+1, flipped(classes(letter))))
	}
	return l
}

// flipped returns two classes with each other's numbers.
func flipped(class [256]uint8) [256]uint8 {
	for b := range class {
		class[b] = 1 - class[b]
	}
	return class
}

// A source tells numbers without a plain rule, always the same ones.
type source uint64

func (x *source) below(n int) int {
	*x = *x*6364136223846793005 + 1442695040888963407
	return int(uint64(*x)>>33) % n
}

// bigger yields automata of up to 25 states and 5 classes, with numbers in any order, for which Right holds; in some of them most entries lead nowhere, or most states have no mark.
func bigger(x source) iter.Seq[api.DFA] {
	return func(yield func(api.DFA) bool) {
		sets := []string{"a", "b", "ab", "bc", "\x00", "b\xff", "\x80\x7f"}
		for range 1200 {
			d := api.DFA{Class: renumbered(classes(sets[:x.below(len(sets))]...), &x)}
			states := 1 + x.below(25)
			dead, unmarked := x.below(5), x.below(6)
			for range states {
				var row []int
				for range byteset.Count(d.Class) {
					to := -1
					if x.below(5) >= dead {
						to = x.below(states)
					}
					row = append(row, to)
				}
				mark := -1
				if x.below(6) > unmarked {
					mark = []int{0, 1, 2, 7, 1<<15 - 1}[x.below(5)]
				}
				d.Next, d.Mark = append(d.Next, row), append(d.Mark, mark)
			}
			if !yield(d) {
				return
			}
		}
	}
}

// renumbered returns classes with numbers in another order.
func renumbered(class [256]uint8, x *source) [256]uint8 {
	var numbers []uint8
	for i := range byteset.Count(class) {
		numbers = slices.Insert(numbers, x.below(i+1), uint8(i))
	}
	for b := range class {
		class[b] = numbers[class[b]]
	}
	return class
}

// chain returns an automaton of so many states, each of which leads to the next one for each byte. Only the last one has a mark.
func chain(states int) api.DFA {
	d := ring(states)
	d.Next[states-1][0] = -1
	d.Mark[0], d.Mark[states-1] = -1, 5
	return d
}

// ring returns an automaton that accepts all strings of which the number of bytes is a multiple of a number.
func ring(states int) api.DFA {
	d := api.DFA{Next: make(rows, states), Mark: slices.Repeat([]int{-1}, states)}
	for state := range states {
		d.Next[state] = []int{(state + 1) % states}
	}
	d.Mark[0] = 3
	return d
}

// only returns an automaton that does for one byte what another one does for all, and leads nowhere for the other bytes.
func only(letter string, d api.DFA) api.DFA {
	d = clone(d)
	d.Class = classes(letter)
	for state, row := range d.Next {
		d.Next[state] = []int{-1, row[0]}
	}
	return d
}

// great returns an automaton of as many states and classes as there may be.
func great(mark func(state int) int, to func(state, class int) int) api.DFA {
	d := api.DFA{Next: make(rows, 1<<15)}
	for b := range 256 {
		d.Class[b] = uint8(b)
	}
	for state := range d.Next {
		d.Mark = append(d.Mark, mark(state))
		d.Next[state] = make([]int, 256)
		for class := range 256 {
			d.Next[state][class] = to(state, class)
		}
	}
	return d
}

// A fault is an automaton for which Right does not hold, and what is wrong with it.
type fault struct {
	what string
	d    api.DFA
}

// good returns the automaton to which each of the faults is made.
func good() api.DFA { return plain(rows{{-1, 1, 2}, {0, -1, 2}, {2, 2, -1}}, -1, 0, 7) }

// faults returns automata each of which fails one condition.
func faults() []fault {
	var l []fault
	add := func(what string, change func(d *api.DFA)) {
		d := good()
		change(&d)
		l = append(l, fault{what, d})
	}
	add("no states", func(d *api.DFA) { d.Next, d.Mark = nil, nil })
	add("no rows", func(d *api.DFA) { d.Next = nil })
	add("no marks", func(d *api.DFA) { d.Mark = nil })
	add("a mark too few", func(d *api.DFA) { d.Mark = d.Mark[:2] })
	add("a mark too many", func(d *api.DFA) { d.Mark = append(d.Mark, -1) })
	add("a row too many", func(d *api.DFA) { d.Next = append(d.Next, []int{-1, -1, -1}) })
	for state := range 3 {
		for _, mark := range []int{-2, 1 << 15, math.MinInt, math.MaxInt} {
			add(fmt.Sprintf("the mark %d of %d", mark, state), func(d *api.DFA) { d.Mark[state] = mark })
		}
		add(fmt.Sprintf("no entries of %d", state), func(d *api.DFA) { d.Next[state] = nil })
		add(fmt.Sprintf("an entry too few of %d", state), func(d *api.DFA) { d.Next[state] = d.Next[state][:2] })
		add(fmt.Sprintf("an entry too many of %d", state), func(d *api.DFA) { d.Next[state] = append(d.Next[state], -1) })
		for class := range 3 {
			for _, to := range []int{-2, 3, math.MinInt, math.MaxInt} {
				add(fmt.Sprintf("%d leads to %d", state, to), func(d *api.DFA) { d.Next[state][class] = to })
			}
		}
	}
	add("the last class has no byte, but entries", func(d *api.DFA) { d.Class = classes("a") })
	add("one more class, without entries", func(d *api.DFA) { d.Class[0] = 3 })
	add("the class 255", func(d *api.DFA) { d.Class[255] = 255 })
	add("the class 255, with entries", func(d *api.DFA) {
		d.Class[255] = 255
		for state := range d.Next {
			d.Next[state] = slices.Repeat([]int{state}, 256)
		}
	})
	add("a state too many", func(d *api.DFA) { *d = chain(1<<15 + 1) })
	return l
}

// wild returns automata that are no plain ones in many ways at once.
func wild() []api.DFA {
	l := []api.DFA{{}, {Next: rows{nil}}, {Mark: []int{3, 4}}, {Next: rows{{0}, {1}, nil, {2, 3}}, Mark: []int{4}}}
	x := source(3)
	for range 400 {
		d := plain(nil)
		if x.below(3) == 0 {
			d.Class[x.below(256)] = uint8(x.below(256))
		}
		for range x.below(5) {
			var row []int
			for range x.below(5) {
				to := x.below(6) - 1
				if x.below(8) == 0 {
					to = odd()[x.below(len(odd()))]
				}
				row = append(row, to)
			}
			d.Next = append(d.Next, row)
		}
		for range x.below(6) {
			d.Mark = append(d.Mark, x.below(6)-2)
		}
		l = append(l, d)
	}
	return l
}

// entry returns where a byte leads from a state, or -1.
func entry(d api.DFA, state int, b byte) int {
	if state < 0 {
		return -1
	}
	return d.Next[state][d.Class[b]]
}

// marked reports whether a state has a mark; nowhere has none.
func marked(d api.DFA, state int) bool { return state >= 0 && d.Mark[state] >= 0 }

// accepts reports whether a text is accepted.
func accepts(d api.DFA, s string) bool {
	state := 0
	for _, b := range []byte(s) {
		state = entry(d, state, b)
	}
	return marked(d, state)
}

// ways are all ways to put two together.
func ways() []int { return []int{lang.And, lang.Or, lang.Less, lang.Xor} }

// wanted reports whether a text is to be accepted of which is told which of two automata accept it: one line a way.
func wanted(how int, a, b bool) bool {
	return map[int][4]bool{
		lang.And:  {false, false, false, true},
		lang.Or:   {false, true, true, true},
		lang.Less: {false, true, false, false},
		lang.Xor:  {false, true, true, false},
	}[how][number(a)+2*number(b)]
}

func number(is bool) int {
	if is {
		return 1
	}
	return 0
}

// letters returns bytes of all classes of several automata: each byte is of the same ones as one of them. They are in their order.
func letters(l ...api.DFA) []byte {
	var found []byte
	known := map[string]int{}
	for i := range 256 {
		var all []byte
		for _, d := range l {
			all = append(all, d.Class[i])
		}
		if known[string(all)]++; known[string(all)] == 1 {
			found = append(found, byte(i))
		}
	}
	return found
}

// wrong returns a string that the last automaton is to accept, but does not, or the other way round, and true; or false if there is none.
func wrong(how int, a, b, got api.DFA) (string, bool) {
	strings := map[[3]int]string{{0, 0, 0}: ""}
	met := [][3]int{{0, 0, 0}}
	bytes := letters(a, b, got)
	for i := 0; i < len(met); i++ {
		at := met[i]
		if wanted(how, marked(a, at[0]), marked(b, at[1])) != marked(got, at[2]) {
			return strings[at], true
		}
		for _, c := range bytes {
			to := [3]int{entry(a, at[0], c), entry(b, at[1], c), entry(got, at[2], c)}
			if _, known := strings[to]; !known {
				strings[to] = strings[at] + string([]byte{c})
				met = append(met, to)
			}
		}
	}
	return "", false
}

// least returns for each state the first one, in byte order, of all texts of so many bytes that lead to it. Texts that lead to no state are left out.
func least(d api.DFA, length int) map[int]string {
	l := map[int]string{0: ""}
	for range length {
		longer := map[int]string{}
		for state, s := range l {
			for i := range 256 {
				to, text := entry(d, state, byte(i)), s+string([]byte{byte(i)})
				if first, known := longer[to]; to >= 0 && (!known || text < first) {
					longer[to] = text
				}
			}
		}
		l = longer
	}
	return l
}

// shortest returns what Shortest is to return: a shortest text meets no state twice.
func shortest(d api.DFA) (string, bool) {
	for length := range len(d.Next) {
		var found []string
		for state, s := range least(d, length) {
			if marked(d, state) {
				found = append(found, s)
			}
		}
		if len(found) > 0 {
			return slices.Min(found), true
		}
	}
	return "", false
}

// counted returns how many strings of n bytes are accepted, of any size.
func counted(d api.DFA, n int) *big.Int {
	counts := make([]*big.Int, len(d.Next))
	for state := range counts {
		counts[state] = big.NewInt(int64(number(marked(d, state))))
	}
	for range n {
		longer := make([]*big.Int, len(d.Next))
		for state := range longer {
			longer[state] = new(big.Int)
			for i := range 256 {
				if to := entry(d, state, byte(i)); to >= 0 {
					longer[state].Add(longer[state], counts[to])
				}
			}
		}
		counts = longer
	}
	return counts[0]
}

// capped returns a count, but at most so many.
func capped(count *big.Int, most int) int {
	if count.Cmp(big.NewInt(int64(most))) > 0 {
		return most
	}
	return int(count.Int64())
}

// finite returns what Finite is to return: if a text that is as long as there are states is accepted, a part of it can be repeated, and if that is so, some such text is not longer than twice that.
func finite(d api.DFA) bool {
	in := map[int]int{0: 0} // all states to which texts of one length lead
	for length := range 2 * len(d.Next) {
		longer := map[int]int{}
		for state := range in {
			if length >= len(d.Next) && marked(d, state) {
				return false
			}
			for _, to := range d.Next[state] {
				if to >= 0 {
					longer[to] = length + 1
				}
			}
		}
		in = longer
	}
	return true
}

// of returns the automaton of a regular expression's text.
func of(t *testing.T, s string) api.DFA {
	t.Helper()
	r, err := rex.Parse(s)
	if err != api.OK {
		t.Fatalf("%s: error %d", s, err)
	}
	n, _ := nfa.Of(r)
	d, err := subset.One(n)
	if err != api.OK {
		t.Fatalf("%s: error %d", s, err)
	}
	return d
}

// pair returns Pair of two automata, which is to be without an error.
func pair(t *testing.T, how int, a, b api.DFA) api.DFA {
	t.Helper()
	d, err := lang.Pair(how, a, b)
	if err != api.OK {
		t.Fatalf("error %d for %d of %s and %s", err, how, told(a), told(b))
	}
	return d
}

// short returns a text for messages.
func short(s string) string {
	if len(s) > 50 {
		return fmt.Sprintf("%q and so on, %d bytes", s[:50], len(s))
	}
	return fmt.Sprintf("%q", s)
}
