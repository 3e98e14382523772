package munch

import (
	"bosket/api"
	"bosket/dfa"
)

// A cutter finds tokens in one text. Behind the end of a token, bytes may have been read in vain, in search of a longer one. The tokens that follow would read them again and again, so that the steps would grow with the square of the length. So it remembers from where no mark comes any more.
type cutter struct {
	d      api.DFA
	s      string
	vain   map[place]struct{} // there, no byte that follows leads to a mark
	passed []place            // those since the last mark of the token that is sought
}

// A place is a state in which the automaton is, ahead of the byte at an index.
type place struct{ at, state int }

// Places are remembered only at one index of so many, as there may be as many for an index as there are states. So up to as many bytes are read in vain for each token.
const stride = 256

// longest returns the mark and the length of the longest token at an index, or unmarked and 0.
func (c *cutter) longest(at int) (int, int) {
	mark, length := unmarked, 0
	if at < 0 {
		return mark, length
	}
	c.passed = c.passed[:0]
	state := 0
	for i := at; i < len(c.s) && c.pass(place{i, state}); i++ {
		state = dfa.Step(c.d, state, c.s[i])
		if state == dfa.Dead {
			break
		}
		if m := dfa.Mark(c.d, state); m != unmarked {
			mark, length = m, i+1-at
			c.passed = c.passed[:0] // up to here, nothing was in vain
		}
	}
	c.remember()
	return mark, length
}

// pass notes a place, and reports whether a mark may come from there.
func (c *cutter) pass(here place) bool {
	if here.at%stride != stride-1 { // the last index of each stride: short texts need no memory
		return true
	}
	if _, vain := c.vain[here]; vain {
		return false
	}
	c.passed = append(c.passed, here)
	return true
}

// remember keeps the places from which no mark came.
func (c *cutter) remember() {
	if len(c.passed) > 0 && c.vain == nil {
		c.vain = map[place]struct{}{}
	}
	for _, here := range c.passed {
		c.vain[here] = struct{}{}
	}
}
