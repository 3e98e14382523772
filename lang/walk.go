package lang

import (
	"slices"

	"bosket/api"
	"bosket/dfa"
)

// A way tells from which state another one was met first, and by which byte.
type way struct {
	from   int
	letter byte
}

// shortest returns the shortest string that is accepted, of several the first one in byte order. As bytes are tried in their order, not in that of their classes, states are met in the order of the first of the shortest strings that lead to them.
func shortest(d api.DFA) (string, bool) {
	_, letters := common(d.Class, d.Class)
	ways := map[int]way{0: {from: dfa.Dead}}
	met := []int{0}
	for i := 0; i < len(met); i++ { // the list grows meanwhile
		from := met[i]
		if dfa.Mark(d, from) >= 0 {
			return spelled(ways, from), true
		}
		for _, letter := range letters {
			to := dfa.Step(d, from, letter)
			if _, known := ways[to]; to != dfa.Dead && !known {
				ways[to] = way{from, letter}
				met = append(met, to)
			}
		}
	}
	return "", false
}

// spelled returns the string by which a state was met first.
func spelled(ways map[int]way, state int) string {
	var letters []byte
	for w := ways[state]; w.from != dfa.Dead; w = ways[w.from] {
		letters = append(letters, w.letter)
	}
	slices.Reverse(letters)
	return string(letters)
}

// circular reports whether some state leads back to itself. Otherwise all states are freed: a state is free as soon as no state leads to it that is not.
func circular(d api.DFA) bool {
	ahead := make([]int, len(d.Next)) // how many entries lead to each state
	for _, row := range d.Next {
		for _, to := range row {
			if to != dfa.Dead {
				ahead[to]++
			}
		}
	}
	var free []int
	if ahead[0] == 0 { // all other states are reached from this one, so that something leads to them
		free = append(free, 0)
	}
	for i := 0; i < len(free); i++ { // the list grows meanwhile
		for _, to := range d.Next[free[i]] {
			if to == dfa.Dead {
				continue
			}
			if ahead[to]--; ahead[to] == 0 {
				free = append(free, to)
			}
		}
	}
	return len(free) < len(d.Next)
}
