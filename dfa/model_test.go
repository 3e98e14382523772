package dfa_test

import (
	"cmp"
	"fmt"
	"iter"
	"math"
	"slices"
	"strings"

	"bosket/api"
	"bosket/byteset"
)

// classes returns the classes of sets of bytes.
func classes(sets ...string) [256]uint8 {
	var l []api.Set
	for _, s := range sets {
		l = append(l, byteset.Of([]byte(s)...))
	}
	return byteset.Classes(l...)
}

type rows = [][]int

// plain returns an automaton over the classes a and b (1 and 2; all other bytes are of class 0).
func plain(next rows, mark ...int) api.DFA {
	return api.DFA{Class: classes("a", "b"), Next: next, Mark: mark}
}

// told returns an automaton for messages.
func told(d api.DFA) string {
	counts := map[uint8]int{}
	for _, class := range d.Class {
		counts[class]++
	}
	return fmt.Sprintf("%d states, bytes by classes %v, %v, marks %v", len(d.Next), counts, d.Next[:min(len(d.Next), 20)], d.Mark[:min(len(d.Mark), 20)])
}

// equal holds two automata against each other, without the help of the package.
func equal(a, b api.DFA) bool {
	return a.Class == b.Class && slices.EqualFunc(a.Next, b.Next, slices.Equal) && slices.Equal(a.Mark, b.Mark)
}

// clone returns an automaton that shares nothing with the one that was given.
func clone(d api.DFA) api.DFA {
	next := d.Next
	d.Next, d.Mark = nil, slices.Clone(d.Mark)
	for _, row := range next {
		d.Next = append(d.Next, slices.Clone(row))
	}
	return d
}

// texts returns all texts of the letters, up to a length, the shortest first.
func texts(letters string, length int) []string {
	all := []string{""}
	for i := 0; len(all[i]) < length; i++ {
		for _, c := range []byte(letters) {
			all = append(all, all[i]+string([]byte{c}))
		}
	}
	return all
}

// odd returns numbers that are states of no automaton of these tests.
func odd() []int {
	return []int{-1, -2, -3, math.MinInt, math.MinInt + 1, math.MaxInt, math.MaxInt - 1, 1 << 15, 1 << 31, 1 << 32, -1 << 31, -1 << 32}
}

// numbersTo returns all rows of so many numbers from -1 to one less than a bound.
func numbersTo(bound, length int) [][]int {
	l := [][]int{nil}
	for range length {
		var longer [][]int
		for _, row := range l {
			for x := -1; x < bound; x++ {
				longer = append(longer, append(slices.Clone(row), x))
			}
		}
		l = longer
	}
	return l
}

// small yields all automata of few states and classes for which Right holds, with marks up to 1.
func small() iter.Seq[api.DFA] {
	class := [][256]uint8{classes(), classes("a")}
	return func(yield func(api.DFA) bool) {
		for _, size := range [][2]int{{1, 1}, {1, 2}, {2, 1}, {2, 2}, {3, 1}, {3, 2}} {
			states, count := size[0], size[1]
			marks := numbersTo(2, states)
			if states == 3 {
				marks = numbersTo(1, states)
			}
			for _, entries := range numbersTo(states, states*count) {
				next := slices.Collect(slices.Chunk(entries, count))
				for _, mark := range marks {
					if !yield(clone(api.DFA{Class: class[count-1], Next: next, Mark: mark})) {
						return
					}
				}
			}
		}
	}
}

// A source tells numbers without a plain rule, always the same ones.
type source uint64

func (x *source) below(n int) int {
	*x = *x*6364136223846793005 + 1442695040888963407
	return int(uint64(*x)>>33) % n
}

// bigger yields automata of up to 25 states and 5 classes for which Right holds; in some of them most entries lead nowhere, or most states have no mark.
func bigger() iter.Seq[api.DFA] {
	return func(yield func(api.DFA) bool) {
		x := source(11)
		sets := []string{"a", "b", "ab", "bc", "\x00", "b\xff"}
		for range 1500 {
			d := api.DFA{Class: classes(sets[:x.below(len(sets))]...)}
			states := 1 + x.below(25)
			dead, unmarked := x.below(5), x.below(5)
			for range states {
				var row []int
				for range byteset.Count(d.Class) {
					to := -1
					if x.below(5) >= dead {
						to = x.below(states)
					}
					row = append(row, to)
				}
				mark := -1
				if x.below(5) >= unmarked {
					mark = []int{0, 1, 2, 7, 1<<15 - 1}[x.below(5)]
				}
				d.Next, d.Mark = append(d.Next, row), append(d.Mark, mark)
			}
			if !yield(d) {
				return
			}
		}
	}
}

// leads returns which states lead to which ones by some string: where two strings lead one after the other, one string leads.
func leads(d api.DFA) [][]bool {
	l := make([][]bool, len(d.Next))
	for from, row := range d.Next {
		l[from] = make([]bool, len(d.Next))
		l[from][from] = true
		for _, to := range row {
			if to >= 0 {
				l[from][to] = true
			}
		}
	}
	for by := range l {
		for from := range l {
			for to := range l {
				l[from][to] = l[from][to] || l[from][by] && l[by][to]
			}
		}
	}
	return l
}

// aliveIn returns the states that lead to one with a mark.
func aliveIn(d api.DFA) []bool {
	l := make([]bool, len(d.Next))
	for from, row := range leads(d) {
		for to, led := range row {
			l[from] = l[from] || led && d.Mark[to] >= 0
		}
	}
	return l
}

// met returns the states that are reached from 0 in the order of discovery. This is the order of the first ways to them: of shorter ones first, and of ways of one length by their classes.
func met(d api.DFA) []int {
	ways := map[int]string{0: ""}
	for changed := true; changed; {
		changed = false
		for from := range d.Next {
			way, known := ways[from]
			for class, to := range d.Next[from] {
				if !known || to < 0 {
					continue
				}
				longer := way + string([]byte{byte(class)})
				if other, known := ways[to]; !known || before(longer, other) < 0 {
					ways[to], changed = longer, true
				}
			}
		}
	}
	var l []int
	for state := range d.Next {
		if _, known := ways[state]; known {
			l = append(l, state)
		}
	}
	slices.SortFunc(l, func(a, b int) int { return before(ways[a], ways[b]) })
	return l
}

// before tells which of two ways comes first: the shorter one, or the one of smaller classes.
func before(a, b string) int {
	return cmp.Or(cmp.Compare(len(a), len(b)), strings.Compare(a, b))
}

// after returns the mark of the state to which a text leads from 0, or -1, without the help of the package.
func after(d api.DFA, s string) int {
	state := 0
	for _, b := range []byte(s) {
		if state = d.Next[state][d.Class[b]]; state < 0 {
			return -1
		}
	}
	return d.Mark[state]
}

// chain returns an automaton of so many states, each of which leads to the next one for each byte. Only the last one has a mark.
func chain(states int) api.DFA {
	d := api.DFA{Next: make(rows, states), Mark: slices.Repeat([]int{-1}, states)}
	for state := range states {
		d.Next[state] = []int{state + 1}
	}
	d.Next[states-1][0] = -1
	d.Mark[states-1] = 5
	return d
}

// A fault is an automaton for which Right does not hold, and what is wrong with it.
type fault struct {
	what string
	d    api.DFA
}

// good returns the automaton to which each of the faults is made.
func good() api.DFA { return plain(rows{{-1, 1, 2}, {0, -1, 2}, {2, 2, -1}}, -1, 0, 7) }

// faults returns automata each of which fails one condition.
func faults() []fault {
	var l []fault
	add := func(what string, change func(d *api.DFA)) {
		d := good()
		change(&d)
		l = append(l, fault{what, d})
	}
	add("no states", func(d *api.DFA) { d.Next, d.Mark = nil, nil })
	add("no states, and empty lists", func(d *api.DFA) { d.Next, d.Mark = rows{}, []int{} })
	add("no rows", func(d *api.DFA) { d.Next = nil })
	add("no marks", func(d *api.DFA) { d.Mark = nil })
	add("a mark too few", func(d *api.DFA) { d.Mark = d.Mark[:2] })
	add("a mark too many", func(d *api.DFA) { d.Mark = append(d.Mark, -1) })
	add("marks of states that are not there", func(d *api.DFA) { d.Mark = append(d.Mark, 3, 4, 5) })
	add("a row too many", func(d *api.DFA) { d.Next = append(d.Next, []int{-1, -1, -1}) })
	for state := range 3 {
		for _, mark := range []int{-2, 1 << 15, 1<<15 + 1, math.MinInt, math.MaxInt} {
			add(fmt.Sprintf("the mark %d of %d", mark, state), func(d *api.DFA) { d.Mark[state] = mark })
		}
		add(fmt.Sprintf("no entries of %d", state), func(d *api.DFA) { d.Next[state] = nil })
		add(fmt.Sprintf("an entry too few of %d", state), func(d *api.DFA) { d.Next[state] = d.Next[state][:2] })
		add(fmt.Sprintf("an entry too many of %d", state), func(d *api.DFA) { d.Next[state] = append(d.Next[state], -1) })
		for class := range 3 {
			for _, to := range []int{-2, 3, 4, math.MinInt, math.MaxInt} {
				add(fmt.Sprintf("%d leads to %d", state, to), func(d *api.DFA) { d.Next[state][class] = to })
			}
		}
	}
	for class := range uint8(3) {
		add(fmt.Sprintf("no byte of the class %d", class), func(d *api.DFA) {
			d.Next = rows{{-1, 1, 2, 0}, {0, -1, 2, 1}, {2, 2, -1, 2}}
			d.Class = replaced(d.Class, class, 3)
		})
	}
	add("no byte of the class 0", func(d *api.DFA) { d.Class = replaced(d.Class, 0, 1) })
	add("no byte of the class 1", func(d *api.DFA) { d.Class = replaced(d.Class, 1, 0) })
	add("the last class has no byte, but entries", func(d *api.DFA) { d.Class = replaced(d.Class, 2, 0) })
	add("one more class, without entries", func(d *api.DFA) { d.Class[0] = 3 })
	add("the class 255", func(d *api.DFA) { d.Class[255] = 255 })
	add("the class 255, with entries", func(d *api.DFA) {
		d.Class[255] = 255
		for state := range d.Next {
			d.Next[state] = slices.Repeat([]int{state}, 256)
		}
	})
	add("a state too many", func(d *api.DFA) { *d = chain(1<<15 + 1) })
	add("many states too many", func(d *api.DFA) { *d = chain(1 << 17) })
	return l
}

// replaced returns classes in which the bytes of one class are of another one.
func replaced(class [256]uint8, one, other uint8) [256]uint8 {
	for b := range class {
		if class[b] == one {
			class[b] = other
		}
	}
	return class
}

// wild returns automata that are no plain ones in many ways at once.
func wild() []api.DFA {
	l := []api.DFA{{}, {Next: rows{nil}}, {Mark: []int{3, 4}}, {Next: rows{{0}, {1}, nil, {2, 3}}, Mark: []int{4}}}
	x := source(3)
	for range 800 {
		d := plain(nil)
		if x.below(3) == 0 {
			d.Class[x.below(256)] = uint8(x.below(256))
		}
		for range x.below(5) {
			var row []int
			for range x.below(5) {
				to := x.below(6) - 1
				if x.below(8) == 0 {
					to = odd()[x.below(len(odd()))]
				}
				row = append(row, to)
			}
			d.Next = append(d.Next, row)
		}
		for range x.below(6) {
			d.Mark = append(d.Mark, x.below(6)-2)
		}
		l = append(l, d)
	}
	return l
}
