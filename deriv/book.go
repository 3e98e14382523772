package deriv

import (
	"bosket/api"
	"bosket/byteset"
	"bosket/rex"
)

// numbers holds values that differ from each other, each with its index as its number.
type numbers[T comparable] struct {
	all   []T
	known map[T]int
}

// of returns the number of a value, which is appended if it is new.
func (l *numbers[T]) of(v T) int {
	if n, known := l.known[v]; known {
		return n
	}
	if l.known == nil {
		l.known = map[T]int{}
	}
	n := len(l.all)
	l.all = append(l.all, v)
	l.known[v] = n
	return n
}

// An expr is an expression of a book: its last piece, and the numbers of the operands of this piece.
type expr struct {
	api.Piece
	operands [2]int
}

// facts are what is told of an expression by its last piece and the facts of its operands.
type facts struct {
	empty  bool    // its language contains the empty string
	first  api.Set // the first bytes of its strings
	pieces int
}

// A book holds expressions with all their operands; equal ones have one number, so that they are told to be equal without looking inside.
type book struct {
	exprs numbers[expr]
	facts []facts // by the numbers of the expressions
}

// factsOf returns the facts of an expression. Of pieces that are not one expression there are none.
func factsOf(r api.Regex) facts {
	var k book
	n, ok := k.enter(r)
	if !ok {
		return facts{}
	}
	return k.facts[n]
}

// enter returns the number of an expression. False: the pieces are not one expression.
func (k *book) enter(r api.Regex) (int, bool) {
	var ready []int // expressions that no piece has taken yet
	for _, p := range r {
		takes := rex.Takes(p.Kind)
		if takes < 0 || takes > len(ready) {
			return 0, false
		}
		e := expr{Piece: p}
		rest := len(ready) - takes
		copy(e.operands[:], ready[rest:])
		ready = append(ready[:rest], k.number(k.simpler(e)))
	}
	if len(ready) != 1 {
		return 0, false
	}
	return ready[0], true
}

// number returns the number of an expression whose operands are in the book.
func (k *book) number(e expr) int {
	n := k.exprs.of(e)
	if n == len(k.facts) {
		k.facts = append(k.facts, k.join(e))
	}
	return n
}

// simpler returns one repetition for a repetition of a repetition. Else what remains would grow with each sign: behind a, a** would be a* ahead of a**.
func (k *book) simpler(e expr) expr {
	if rex.Takes(e.Kind) != 1 {
		return e
	}
	inner := k.exprs.all[e.operands[0]]
	switch {
	case rex.Takes(inner.Kind) != 1:
		return e
	case inner.Kind == e.Kind:
		return inner
	}
	return star(inner) // whichever two signs they are: together they allow none, and many
}

// star returns the Star of what a repetition repeats.
func star(e expr) expr {
	return expr{Piece: api.Piece{Kind: api.Star}, operands: e.operands}
}

// join tells the facts of an expression.
func (k *book) join(e expr) facts {
	switch e.Kind {
	case api.None:
		return facts{empty: true, pieces: 1}
	case api.One:
		return facts{first: e.Set, pieces: 1}
	}
	x, y := k.facts[e.operands[0]], k.facts[e.operands[1]]
	switch e.Kind {
	case api.Alt:
		return facts{empty: x.empty || y.empty, first: byteset.Or(x.first, y.first), pieces: x.pieces + y.pieces + 1}
	case api.Cat:
		first := x.first
		if x.empty {
			first = byteset.Or(first, y.first)
		}
		return facts{empty: x.empty && y.empty, first: first, pieces: x.pieces + y.pieces + 1}
	}
	return facts{empty: x.empty || e.Kind != api.Plus, first: x.first, pieces: x.pieces + 1}
}
