package mini_test

import (
	"fmt"
	"iter"
	"math"
	"slices"

	"bosket/api"
	"bosket/byteset"
)

// classes returns the classes of sets of bytes.
func classes(sets ...string) [256]uint8 {
	var l []api.Set
	for _, s := range sets {
		l = append(l, byteset.Of([]byte(s)...))
	}
	return byteset.Classes(l...)
}

type rows = [][]int

// plain returns an automaton over the classes a and b (1 and 2; all other bytes are of class 0).
func plain(next rows, mark ...int) api.DFA {
	return api.DFA{Class: classes("a", "b"), Next: next, Mark: mark}
}

// told returns an automaton for messages.
func told(d api.DFA) string {
	counts := map[uint8]int{}
	for _, class := range d.Class {
		counts[class]++
	}
	return fmt.Sprintf("%d states, bytes by classes %v, %v, marks %v", len(d.Next), counts, d.Next[:min(len(d.Next), 20)], d.Mark[:min(len(d.Mark), 20)])
}

// equal holds two automata against each other, without the help of the package.
func equal(a, b api.DFA) bool {
	return a.Class == b.Class && slices.EqualFunc(a.Next, b.Next, slices.Equal) && slices.Equal(a.Mark, b.Mark)
}

// clone returns an automaton that shares nothing with the one that was given.
func clone(d api.DFA) api.DFA {
	next := d.Next
	d.Next, d.Mark = nil, slices.Clone(d.Mark)
	for _, row := range next {
		d.Next = append(d.Next, slices.Clone(row))
	}
	return d
}

// texts returns all texts of the letters, up to a length, the shortest first.
func texts(letters string, length int) []string {
	all := []string{""}
	for i := 0; len(all[i]) < length; i++ {
		for _, c := range []byte(letters) {
			all = append(all, all[i]+string([]byte{c}))
		}
	}
	return all
}

// odd returns numbers that are states of no automaton of these tests.
func odd() []int {
	return []int{-1, -2, -3, math.MinInt, math.MinInt + 1, math.MaxInt, math.MaxInt - 1, 1 << 15, 1 << 31, 1 << 32, -1 << 31, -1 << 32}
}

// numbersTo returns all rows of so many numbers from -1 to one less than a bound.
func numbersTo(bound, length int) [][]int {
	l := [][]int{nil}
	for range length {
		var longer [][]int
		for _, row := range l {
			for x := -1; x < bound; x++ {
				longer = append(longer, append(slices.Clone(row), x))
			}
		}
		l = longer
	}
	return l
}

// small yields all automata of few states and classes for which Right holds, with marks up to 1.
func small() iter.Seq[api.DFA] {
	class := [][256]uint8{classes(), classes("a")}
	return func(yield func(api.DFA) bool) {
		for _, size := range [][2]int{{1, 1}, {1, 2}, {2, 1}, {2, 2}, {3, 1}, {3, 2}} {
			states, count := size[0], size[1]
			marks := numbersTo(2, states)
			if states == 3 {
				marks = numbersTo(1, states)
			}
			for _, entries := range numbersTo(states, states*count) {
				next := slices.Collect(slices.Chunk(entries, count))
				for _, mark := range marks {
					if !yield(clone(api.DFA{Class: class[count-1], Next: next, Mark: mark})) {
						return
					}
				}
			}
		}
	}
}

// A source tells numbers without a plain rule, always the same ones.
type source uint64

func (x *source) below(n int) int {
	*x = *x*6364136223846793005 + 1442695040888963407
	return int(uint64(*x)>>33) % n
}

// bigger yields automata of up to 25 states and 5 classes for which Right holds; in some of them most entries lead nowhere, or most states have no mark.
func bigger() iter.Seq[api.DFA] {
	return func(yield func(api.DFA) bool) {
		x := source(11)
		sets := []string{"a", "b", "ab", "bc", "\x00", "b\xff"}
		for range 1500 {
			d := api.DFA{Class: classes(sets[:x.below(len(sets))]...)}
			states := 1 + x.below(25)
			dead, unmarked := x.below(5), x.below(5)
			for range states {
				var row []int
				for range byteset.Count(d.Class) {
					to := -1
					if x.below(5) >= dead {
						to = x.below(states)
					}
					row = append(row, to)
				}
				mark := -1
				if x.below(5) >= unmarked {
					mark = []int{0, 1, 2, 7, 1<<15 - 1}[x.below(5)]
				}
				d.Next, d.Mark = append(d.Next, row), append(d.Mark, mark)
			}
			if !yield(d) {
				return
			}
		}
	}
}

// chain returns an automaton of so many states, each of which leads to the next one for each byte. Only the last one has a mark.
func chain(states int) api.DFA {
	d := api.DFA{Next: make(rows, states), Mark: slices.Repeat([]int{-1}, states)}
	for state := range states {
		d.Next[state] = []int{state + 1}
	}
	d.Next[states-1][0] = -1
	d.Mark[states-1] = 5
	return d
}

// A fault is an automaton for which Right does not hold, and what is wrong with it.
type fault struct {
	what string
	d    api.DFA
}

// good returns the automaton to which each of the faults is made.
func good() api.DFA { return plain(rows{{-1, 1, 2}, {0, -1, 2}, {2, 2, -1}}, -1, 0, 7) }

// faults returns automata each of which fails one condition.
func faults() []fault {
	var l []fault
	add := func(what string, change func(d *api.DFA)) {
		d := good()
		change(&d)
		l = append(l, fault{what, d})
	}
	add("no states", func(d *api.DFA) { d.Next, d.Mark = nil, nil })
	add("no states, and empty lists", func(d *api.DFA) { d.Next, d.Mark = rows{}, []int{} })
	add("no rows", func(d *api.DFA) { d.Next = nil })
	add("no marks", func(d *api.DFA) { d.Mark = nil })
	add("a mark too few", func(d *api.DFA) { d.Mark = d.Mark[:2] })
	add("a mark too many", func(d *api.DFA) { d.Mark = append(d.Mark, -1) })
	add("marks of states that are not there", func(d *api.DFA) { d.Mark = append(d.Mark, 3, 4, 5) })
	add("a row too many", func(d *api.DFA) { d.Next = append(d.Next, []int{-1, -1, -1}) })
	for state := range 3 {
		for _, mark := range []int{-2, 1 << 15, 1<<15 + 1, math.MinInt, math.MaxInt} {
			add(fmt.Sprintf("the mark %d of %d", mark, state), func(d *api.DFA) { d.Mark[state] = mark })
		}
		add(fmt.Sprintf("no entries of %d", state), func(d *api.DFA) { d.Next[state] = nil })
		add(fmt.Sprintf("an entry too few of %d", state), func(d *api.DFA) { d.Next[state] = d.Next[state][:2] })
		add(fmt.Sprintf("an entry too many of %d", state), func(d *api.DFA) { d.Next[state] = append(d.Next[state], -1) })
		for class := range 3 {
			for _, to := range []int{-2, 3, 4, math.MinInt, math.MaxInt} {
				add(fmt.Sprintf("%d leads to %d", state, to), func(d *api.DFA) { d.Next[state][class] = to })
			}
		}
	}
	for class := range uint8(3) {
		add(fmt.Sprintf("no byte of the class %d", class), func(d *api.DFA) {
			d.Next = rows{{-1, 1, 2, 0}, {0, -1, 2, 1}, {2, 2, -1, 2}}
			d.Class = replaced(d.Class, class, 3)
		})
	}
	add("no byte of the class 0", func(d *api.DFA) { d.Class = replaced(d.Class, 0, 1) })
	add("no byte of the class 1", func(d *api.DFA) { d.Class = replaced(d.Class, 1, 0) })
	add("the last class has no byte, but entries", func(d *api.DFA) { d.Class = replaced(d.Class, 2, 0) })
	add("one more class, without entries", func(d *api.DFA) { d.Class[0] = 3 })
	add("the class 255", func(d *api.DFA) { d.Class[255] = 255 })
	add("the class 255, with entries", func(d *api.DFA) {
		d.Class[255] = 255
		for state := range d.Next {
			d.Next[state] = slices.Repeat([]int{state}, 256)
		}
	})
	add("a state too many", func(d *api.DFA) { *d = chain(1<<15 + 1) })
	add("many states too many", func(d *api.DFA) { *d = chain(1 << 17) })
	return l
}

// replaced returns classes in which the bytes of one class are of another one.
func replaced(class [256]uint8, one, other uint8) [256]uint8 {
	for b := range class {
		if class[b] == one {
			class[b] = other
		}
	}
	return class
}

// wild returns automata that are no plain ones in many ways at once.
func wild() []api.DFA {
	l := []api.DFA{{}, {Next: rows{nil}}, {Mark: []int{3, 4}}, {Next: rows{{0}, {1}, nil, {2, 3}}, Mark: []int{4}}}
	x := source(3)
	for range 800 {
		d := plain(nil)
		if x.below(3) == 0 {
			d.Class[x.below(256)] = uint8(x.below(256))
		}
		for range x.below(5) {
			var row []int
			for range x.below(5) {
				to := x.below(6) - 1
				if x.below(8) == 0 {
					to = odd()[x.below(len(odd()))]
				}
				row = append(row, to)
			}
			d.Next = append(d.Next, row)
		}
		for range x.below(6) {
			d.Mark = append(d.Mark, x.below(6)-2)
		}
		l = append(l, d)
	}
	return l
}

// entry returns where a byte leads from a state, or -1.
func entry(d api.DFA, state int, b byte) int {
	if state < 0 {
		return -1
	}
	return d.Next[state][d.Class[b]]
}

// mark returns the mark of a state, or that of nowhere.
func mark(d api.DFA, state int) int {
	if state < 0 {
		return -1
	}
	return d.Mark[state]
}

// after returns the mark of the state to which a text leads from a state, or -1.
func after(d api.DFA, state int, s string) int {
	for _, b := range []byte(s) {
		state = entry(d, state, b)
	}
	return mark(d, state)
}

// letters returns bytes of all classes of two automata: each byte is of the same ones as one of them.
func letters(a, b api.DFA) []byte {
	var l []byte
	for i := range 256 {
		if !slices.ContainsFunc(l, func(c byte) bool { return a.Class[c] == a.Class[i] && b.Class[c] == b.Class[i] }) {
			l = append(l, byte(i))
		}
	}
	return l
}

// apart returns for each pair of states whether some string leads from them to different marks: the empty one, or one whose first byte leads to such a pair. The state 0 is nowhere here, and each other state has a number greater by 1.
func apart(d api.DFA) rows {
	n := len(d.Next) + 1
	l := make(rows, n)
	for p := range l {
		l[p] = make([]int, n)
		for q := range n {
			if mark(d, p-1) != mark(d, q-1) {
				l[p][q] = 1
			}
		}
	}
	bytes := letters(d, d)
	for changed := true; changed; {
		changed = false
		for p := range n {
			for q := range n {
				for _, b := range bytes {
					if l[p][q] == 0 && l[entry(d, p-1, b)+1][entry(d, q-1, b)+1] == 1 {
						l[p][q], changed = 1, true
					}
				}
			}
		}
	}
	return l
}

// smallest returns for each state the smallest one that no string tells from it.
func smallest(d api.DFA) []int {
	l := apart(d)
	var first []int
	for q := range d.Next {
		first = append(first, slices.Index(l[q+1][1:], 0))
	}
	return first
}

// blocks returns what Blocks is to return.
func blocks(d api.DFA) []int {
	var l []int
	first := smallest(d)
	count := 0
	for state, f := range first {
		if f < state {
			l = append(l, l[f])
		} else {
			l = append(l, count)
			count++
		}
	}
	return l
}

// least returns what Of is to return: the states are met byte by byte, from 0 on, each of them the smallest one of its block.
func least(d api.DFA) api.DFA {
	first, nowhere := smallest(d), apart(d)[0]
	met := []int{0}
	var table rows // where each byte leads
	for i := 0; i < len(met); i++ {
		row := make([]int, 256)
		for b := range row {
			to := entry(d, met[i], byte(b))
			row[b] = -1
			if nowhere[to+1] == 1 {
				if !slices.Contains(met, first[to]) {
					met = append(met, first[to])
				}
				row[b] = slices.Index(met, first[to])
			}
		}
		table = append(table, row)
	}
	return byClasses(table, d.Mark, met)
}

// byClasses returns an automaton for a table that tells where each byte leads. Its states have the marks of the states that were met.
func byClasses(table rows, marks, met []int) api.DFA {
	d := api.DFA{Next: make(rows, len(table))}
	count := 0
	for b := range 256 {
		alike := func(c int) bool {
			return !slices.ContainsFunc(table, func(row []int) bool { return row[b] != row[c] })
		}
		c := 0
		for !alike(c) {
			c++
		}
		if c < b {
			d.Class[b] = d.Class[c]
			continue
		}
		d.Class[b] = uint8(count)
		count++
		for i, row := range table {
			d.Next[i] = append(d.Next[i], row[b])
		}
	}
	for _, state := range met {
		d.Mark = append(d.Mark, marks[state])
	}
	return d
}

// difference returns a string that has different marks in two automata, and true, or false if there is none.
func difference(a, b api.DFA) (string, bool) {
	ways := map[[2]int]string{{0, 0}: ""}
	met := [][2]int{{0, 0}}
	bytes := letters(a, b)
	for i := 0; i < len(met); i++ {
		pair := met[i]
		if mark(a, pair[0]) != mark(b, pair[1]) {
			return ways[pair], true
		}
		for _, c := range bytes {
			to := [2]int{entry(a, pair[0], c), entry(b, pair[1], c)}
			if _, known := ways[to]; !known {
				ways[to] = ways[pair] + string([]byte{c})
				met = append(met, to)
			}
		}
	}
	return "", false
}

// shuffled returns the numbers below a bound in another order.
func shuffled(x *source, bound int) []int {
	var l []int
	for i := range bound {
		l = slices.Insert(l, x.below(i+1), i)
	}
	return l
}

// disguised returns an automaton with the same marks for all strings: states have copies, others are reached by no string or lead to no mark, bytes of one class are of several ones, and all but the state 0 have other numbers.
func disguised(d api.DFA, x *source) api.DFA {
	n := len(d.Next)
	copies, lost := 1+x.below(3), x.below(3)
	sinks := 1 + x.below(3)
	total := n*copies + lost + sinks
	names := append([]int{0}, make([]int, total-1)...)
	for i, name := range shuffled(x, total-1) {
		names[i+1] = name + 1
	}
	finer := byteset.Classes(byteset.Range(byte(x.below(256)), byte(x.below(256))), byteset.Of('a', byte(x.below(256))))
	class, old := product(d.Class, finer, x)
	other := api.DFA{Class: class, Next: make(rows, total), Mark: slices.Repeat([]int{-1}, total)}
	sink := func() int { return names[total-1-x.below(sinks)] }
	for state := range total {
		row := make([]int, len(old))
		for c := range row {
			row[c] = sink()
			switch {
			case state >= total-sinks:
			case state >= n*copies:
				row[c] = names[x.below(total)]
			case d.Next[state%n][old[c]] >= 0:
				row[c] = names[d.Next[state%n][old[c]]+n*x.below(copies)]
			case x.below(2) == 0:
				row[c] = -1
			}
		}
		other.Next[names[state]] = row
		if state < n*copies {
			other.Mark[names[state]] = d.Mark[state%n]
		} else if state < total-sinks {
			other.Mark[names[state]] = x.below(9) - 1
		}
	}
	return other
}

// product returns classes with numbers in no order: two bytes are in one class if they are in one by both of the given ones. It also returns for each of them the class that it has in the first ones.
func product(a, b [256]uint8, x *source) ([256]uint8, []int) {
	var pairs [][2]uint8
	for i := range a {
		if pair := [2]uint8{a[i], b[i]}; !slices.Contains(pairs, pair) {
			pairs = slices.Insert(pairs, x.below(len(pairs)+1), pair)
		}
	}
	var class [256]uint8
	for i := range a {
		class[i] = uint8(slices.Index(pairs, [2]uint8{a[i], b[i]}))
	}
	var old []int
	for _, pair := range pairs {
		old = append(old, int(pair[0]))
	}
	return class, old
}
