package subset

import (
	"bosket/api"
	"bosket/byteset"
	"bosket/nfa"
)

// A net is an automaton whose edges are kept by the states from which they lead. It has only the states that First and the edges name, numbered anew: an automaton may have far more states than that, even more than can be listed.
type net struct {
	class [256]uint8
	first int
	marks []int    // by the states: their marks
	free  [][]int  // by the states: where Free edges lead
	steps [][]step // by the states: where the other edges lead
}

// A step leads to a state, for the bytes of some classes.
type step struct {
	classes []int
	to      int
}

func newNet(n api.NFA, mark func(state int) int) *net {
	t := &net{class: byteset.Classes(nfa.Sets(n)...)}
	numbers := map[int]int{}
	number := func(state int) int {
		k, known := numbers[state]
		if !known {
			k = t.add(mark(state))
			numbers[state] = k
		}
		return k
	}
	t.first = number(n.First)
	classes := t.classesOfSets()
	for _, e := range n.Edges {
		from, to := number(e.From), number(e.To)
		if e.Free {
			t.free[from] = append(t.free[from], to)
		} else {
			t.steps[from] = append(t.steps[from], step{classes: classes(e.Set), to: to})
		}
	}
	return t
}

// add adds a state without edges, and returns its number.
func (t *net) add(mark int) int {
	t.marks = append(t.marks, mark)
	t.free = append(t.free, nil)
	t.steps = append(t.steps, nil)
	return len(t.marks) - 1
}

// classesOfSets returns a function that tells of which classes the bytes of a set are. Many edges have the same set; they share one list.
func (t *net) classesOfSets() func(s api.Set) []int {
	first := t.firstBytes()
	lists := map[api.Set][]int{}
	return func(s api.Set) []int {
		l, known := lists[s]
		if !known {
			for class, b := range first {
				if byteset.Has(s, b) { // then it has all bytes of the class
					l = append(l, class)
				}
			}
			lists[s] = l
		}
		return l
	}
}

// firstBytes returns the smallest byte of each class; by these the classes are numbered.
func (t *net) firstBytes() []byte {
	var l []byte
	for b, class := range t.class {
		if int(class) == len(l) {
			l = append(l, byte(b))
		}
	}
	return l
}
