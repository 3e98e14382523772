package subset

import (
	"math/bits"

	"bosket/api"
	"bosket/byteset"
)

// A maker makes a deterministic automaton of a net. Each of its states is a set of states of the net, which is kept as a text: bit i%8 of byte i/8 tells whether the state i is in it.
type maker struct {
	net     *net
	made    api.DFA
	sets    []string       // by the states that are made: their sets
	numbers map[string]int // by sets: which state is Close of the set
	in      []byte         // the set that is being gathered
	list    []int          // the states that are in it
}

func newMaker(t *net) *maker {
	return &maker{
		net:     t,
		made:    api.DFA{Class: t.class},
		numbers: map[string]int{},
		in:      make([]byte, (len(t.marks)+7)/8),
	}
}

// lead tells where each class leads from a state that is made.
func (m *maker) lead(from int) {
	targets := make([][]int, byteset.Count(m.made.Class))
	for _, state := range members(m.sets[from]) {
		for _, s := range m.net.steps[state] {
			for _, class := range s.classes {
				targets[class] = append(targets[class], s.to)
			}
		}
	}
	row := make([]int, len(targets))
	for class, to := range targets {
		row[class] = none
		if len(to) > 0 {
			row[class] = m.closeOf(to)
		}
	}
	m.made.Next = append(m.made.Next, row)
}

// closeOf returns the number of the state that is Close of some states of the net.
func (m *maker) closeOf(states []int) int {
	m.gather(states)
	if number, known := m.numbers[string(m.in)]; known {
		return number
	}
	before := string(m.in)
	m.followFree()
	after := string(m.in)
	number, known := m.numbers[after]
	if !known {
		number = m.add(after)
		m.numbers[before] = number // only here, so that no more sets are kept than two for each state
	}
	return number
}

// gather begins a new set, of the given states.
func (m *maker) gather(states []int) {
	clear(m.in)
	m.list = m.list[:0]
	for _, state := range states {
		m.enter(state)
	}
}

func (m *maker) enter(state int) {
	bit := byte(1) << (state % 8)
	if m.in[state/8]&bit == 0 {
		m.in[state/8] |= bit
		m.list = append(m.list, state)
	}
}

// followFree enters all states to which Free edges lead.
func (m *maker) followFree() {
	for i := 0; i < len(m.list); i++ { // the list grows meanwhile
		for _, to := range m.net.free[m.list[i]] {
			m.enter(to)
		}
	}
}

// add makes a state of the set that is gathered, and returns its number.
func (m *maker) add(set string) int {
	number := len(m.sets)
	m.sets = append(m.sets, set)
	m.numbers[set] = number
	m.made.Mark = append(m.made.Mark, m.smallestMark())
	return number
}

// smallestMark returns the smallest mark of the states that are gathered.
func (m *maker) smallestMark() int {
	least := none
	for _, state := range m.list {
		if mark := m.net.marks[state]; mark != none && (least == none || mark < least) {
			least = mark
		}
	}
	return least
}

// members returns the states that are in a set, in increasing order.
func members(set string) []int {
	var l []int
	for i := range len(set) { // a range over the text would take runes
		for b := set[i]; b != 0; b &= b - 1 {
			l = append(l, 8*i+bits.TrailingZeros8(b))
		}
	}
	return l
}
