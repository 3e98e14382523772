package deriv

import (
	"bosket/api"
	"bosket/byteset"
)

// A tail is a list of expressions whose strings stand one after the other: an expression and, by its number, the tail behind it.
type tail struct {
	head, rest int
}

// end is the number of the empty tail, the only one without a head.
const end = 0

// A pile holds different tails, by their numbers, in the order in which they were found.
type pile struct {
	all []int
	in  []bool // by the numbers
}

// add adds a tail that is not there yet.
func (p *pile) add(n int) {
	if p.has(n) {
		return
	}
	if n >= len(p.in) {
		p.in = append(p.in, make([]bool, n+1-len(p.in))...)
	}
	p.in[n] = true
	p.all = append(p.all, n)
}

func (p *pile) has(n int) bool { return n < len(p.in) && p.in[n] }

// A reading is a tail of which a byte is read.
type reading struct {
	tail int
	b    byte
}

// A reader tells which tails remain behind a byte. What remains of an expression is always a pile of tails, any of which may follow. One pieces of which equal things follow lead to the same tail, so there are at most as many tails as One pieces (and the one of the start): nothing grows without end, however long the text is.
type reader struct {
	book
	tails numbers[tail]
	done  map[reading][]int // the tails that remain, where that has been told already
}

// newReader returns a reader of a valid expression, and what there is to read at the start.
func newReader(r api.Regex) (*reader, *pile) {
	k := &reader{done: map[reading][]int{}}
	k.tails.of(tail{head: -1, rest: -1})
	whole, _ := k.enter(r)
	start := &pile{}
	start.add(k.prepend(whole, end))
	return k, start
}

// prepend returns the tail that begins with an expression. A Cat is taken apart, so that tails of the same expressions are the same ones.
func (k *reader) prepend(n, rest int) int {
	switch e := k.exprs.all[n]; e.Kind {
	case api.None:
		return rest
	case api.Cat:
		return k.prepend(e.operands[0], k.prepend(e.operands[1], rest))
	}
	return k.tails.of(tail{head: n, rest: rest})
}

// behind returns the tails that remain of some tails behind a byte.
func (k *reader) behind(left *pile, b byte) *pile {
	all := &pile{}
	for _, t := range left.all {
		for _, next := range k.behindOne(reading{t, b}) {
			all.add(next)
		}
	}
	return all
}

// behindOne returns the tails that remain of one.
func (k *reader) behindOne(at reading) []int {
	if known, told := k.done[at]; told {
		return known
	}
	var found pile // a tail may be found over and over: what is kept, and gone through for each byte, has it once
	for t := at.tail; t != end; {
		here := k.tails.all[t]
		k.read(here.head, at.b, here.rest, &found)
		if !k.facts[here.head].empty {
			break
		}
		t = here.rest
	}
	k.done[at] = found.all
	return found.all
}

// read adds the tails that remain of an expression, with a tail behind it, if a string of the expression starts with the byte.
func (k *reader) read(n int, b byte, rest int, found *pile) {
	if !byteset.Has(k.facts[n].first, b) {
		return
	}
	e := k.exprs.all[n]
	first, second := e.operands[0], e.operands[1]
	switch e.Kind {
	case api.One:
		found.add(rest)
	case api.Cat:
		k.read(first, b, k.prepend(second, rest), found)
		if k.facts[first].empty {
			k.read(second, b, rest, found)
		}
	case api.Alt:
		k.read(first, b, rest, found)
		k.read(second, b, rest, found)
	case api.Opt:
		k.read(first, b, rest, found)
	default: // behind the first time, Plus is as Star
		k.read(first, b, k.prepend(k.number(star(e)), rest), found)
	}
}
