package fuse

import (
	"strings"

	"bosket/api"
	"bosket/dfa"
)

// blanks are the bytes of which blanks between tokens may consist.
const blanks = " \n\t\r"

// unmarked is the mark of a state that has none.
const unmarked = -1

// Safe reports whether a rule can be used for blanks anywhere: it has the strings of one blank and of one line feed; a line feed ends any token of another rule, and a blank any but comments; and behind a blank byte, only other blank bytes go on with the token, which is of this rule.
func Safe(d api.DFA, kinds []int, blank int) bool {
	d = dfa.Trim(d) // what leads to no mark leads nowhere now
	return blank != unmarked && dfa.Has(d, " ") == blank && dfa.Has(d, "\n") == blank && ended(d, kinds, blank) && apart(d, blank)
}

// ended reports whether all tokens but blanks end ahead of a line feed, and all but blanks and comments ahead of a blank.
func ended(d api.DFA, kinds []int, blank int) bool {
	for state, reached := range dfa.Reached(d, 0) {
		mark := dfa.Mark(d, state)
		if !reached || mark == unmarked || mark == blank {
			continue
		}
		if dfa.Step(d, state, '\n') != dfa.Dead {
			return false
		}
		if !isComment(kinds, mark) && dfa.Step(d, state, ' ') != dfa.Dead {
			return false
		}
	}
	return true
}

// isComment reports whether a mark is that of a rule for comments.
func isComment(kinds []int, mark int) bool { return mark < len(kinds) && kinds[mark] == api.Comment }

// apart reports whether each token that begins with a blank byte is of the rule for blanks, and has no other byte next.
func apart(d api.DFA, blank int) bool {
	for _, b := range []byte(blanks) {
		state := dfa.Step(d, 0, b)
		if mixed(d, state) || marksOthers(d, state, blank) {
			return false
		}
	}
	return true
}

// mixed reports whether a byte that is no blank one leads on from a state.
func mixed(d api.DFA, state int) bool {
	for i := range len(d.Class) {
		b := byte(i)
		if strings.IndexByte(blanks, b) < 0 && dfa.Step(d, state, b) != dfa.Dead {
			return true
		}
	}
	return false
}

// marksOthers reports whether a mark other than that for blanks can be reached from a state.
func marksOthers(d api.DFA, state, blank int) bool {
	for to, reached := range dfa.Reached(d, state) {
		if mark := dfa.Mark(d, to); reached && mark != unmarked && mark != blank {
			return true
		}
	}
	return false
}
