package lang

import (
	"bosket/api"
	"bosket/dfa"
)

// A pair is where a string leads in two automata: a state of each, or dfa.Dead, but not in both.
type pair struct{ a, b int }

// A maker makes an automaton whose states are the pairs that are met.
type maker struct {
	how     int
	a, b    api.DFA
	letters []byte // one byte of each class of the automaton that is made
	met     []pair
	numbers map[pair]int // which states they are
	made    api.DFA
}

func newMaker(how int, a, b api.DFA) *maker {
	m := &maker{how: how, a: a, b: b, numbers: map[pair]int{}}
	m.made.Class, m.letters = common(a.Class, b.Class)
	return m
}

// common returns the classes of those bytes that are of the same class in two automata, numbered by their smallest bytes, and these bytes.
func common(a, b [256]uint8) ([256]uint8, []byte) {
	var class [256]uint8
	var smallest []byte
	numbers := map[[2]uint8]uint8{}
	for i := range class {
		both := [2]uint8{a[i], b[i]}
		number, known := numbers[both]
		if !known {
			number = uint8(len(smallest)) // at most 255: there are no more bytes ahead of this one
			numbers[both] = number
			smallest = append(smallest, byte(i))
		}
		class[i] = number
	}
	return class, smallest
}

// lead tells where each class leads from a pair.
func (m *maker) lead(from pair) {
	row := make([]int, len(m.letters))
	for class, letter := range m.letters {
		row[class] = m.number(pair{dfa.Step(m.a, from.a, letter), dfa.Step(m.b, from.b, letter)})
	}
	m.made.Next = append(m.made.Next, row)
}

// number returns the state of a pair, which is a new one if the pair was not met yet, or dfa.Dead if both automata are nowhere.
func (m *maker) number(p pair) int {
	if p.a == dfa.Dead && p.b == dfa.Dead {
		return dfa.Dead
	}
	number, known := m.numbers[p]
	if !known {
		number = len(m.met)
		m.numbers[p] = number
		m.met = append(m.met, p)
		m.made.Mark = append(m.made.Mark, m.mark(p))
	}
	return number
}

// mark returns 0 if the strings that lead to a pair are accepted, and -1 if not.
func (m *maker) mark(p pair) int {
	if together(m.how, dfa.Mark(m.a, p.a) >= 0, dfa.Mark(m.b, p.b) >= 0) {
		return 0
	}
	return -1
}

// together reports whether a string is accepted of which is known whether each of two automata accepts it.
func together(how int, a, b bool) bool {
	switch how {
	case And:
		return a && b
	case Or:
		return a || b
	case Less:
		return a && !b
	}
	return a != b
}
