package lang

import (
	"slices"

	"bosket/api"
	"bosket/byteset"
	"bosket/dfa"
)

// A tally tells how many strings of one length lead to each state of an automaton, but at most so many. The lengths are taken one after the other, from 0 on.
type tally struct {
	d      api.DFA
	most   int
	sizes  []int // by the classes: how many bytes they have
	counts []int // by the states
	// What changed in counts with the last length. Only from there the next counts are changed: most states of great automata soon have the most.
	changes []int
	// The next counts, without a bound. They are far below 2^63, as there are 2^15 states, 256 bytes, and counts up to 2^30.
	sums []int
}

func newTally(d api.DFA, most int) *tally {
	t := &tally{
		d:       d,
		most:    most,
		sizes:   make([]int, byteset.Count(d.Class)),
		counts:  make([]int, len(d.Next)),
		changes: make([]int, len(d.Next)),
		sums:    make([]int, len(d.Next)),
	}
	for _, class := range d.Class {
		t.sizes[class]++
	}
	t.counts[0], t.changes[0] = 1, 1 // only the empty string has no bytes
	return t
}

// advance goes on to the strings that are longer by n bytes. Counts follow from those of the length before. So once they are as they were some lengths ago, they come round again and again, and whole rounds are left out. The counts that are known are replaced at longer and longer intervals, so that a round of any length is found.
func (t *tally) advance(n int) {
	for interval := 1; n > 0; interval *= 2 {
		known := slices.Clone(t.counts)
		for age := 1; age <= interval && n > 0; age++ {
			t.step()
			n--
			if slices.Equal(t.counts, known) {
				n %= age
			}
		}
	}
}

// step goes on to the strings that are longer by one byte.
func (t *tally) step() {
	for from, change := range t.changes {
		if change != 0 {
			t.add(from, change)
		}
	}
	for state, sum := range t.sums {
		count := min(sum, t.most)
		t.changes[state] = count - t.counts[state]
		t.counts[state] = count
	}
}

// add adds what changed in the count of a state to the sums of those to which it leads.
func (t *tally) add(from, change int) {
	for class, to := range t.d.Next[from] {
		if to != dfa.Dead {
			t.sums[to] += change * t.sizes[class]
		}
	}
}

// accepted returns how many strings are accepted.
func (t *tally) accepted() int {
	sum := 0
	for state, count := range t.counts {
		if dfa.Mark(t.d, state) >= 0 {
			sum += count
		}
	}
	return min(sum, t.most)
}
