package deriv

import (
	"bosket/api"
	"bosket/rex"
)

// A tree holds the tails that remain by what they end with, so that what several of them end with is written once.
type tree struct {
	*reader
	left   *pile
	longer map[int][]int // for each of the tails, and each that they end with: those with one more expression ahead
	r      api.Regex     // what is written so far
}

func (k *reader) tree(left *pile) *tree {
	t := &tree{reader: k, left: left, longer: map[int][]int{end: nil}}
	for _, n := range left.all {
		t.plant(n)
	}
	return t
}

// plant adds a tail behind all that it ends with.
func (t *tree) plant(n int) {
	if _, known := t.longer[n]; known {
		return
	}
	rest := t.tails.all[n].rest
	t.plant(rest)
	t.longer[rest] = append(t.longer[rest], n)
	t.longer[n] = nil
}

// pieces returns how many pieces the expression has: writing all of them behind each byte would cost more.
func (t *tree) pieces() int {
	count := 1 // a None, if there is the empty tail alone
	if heads := len(t.longer) - 1; heads > 0 {
		count = heads - 1 // each but one comes with a Cat or an Alt, whatever their order is
	}
	for n, longer := range t.longer {
		if n != end {
			count += t.facts[t.tails.all[n].head].pieces
		}
		if len(longer) > 0 && t.left.has(n) {
			count++
		}
	}
	return count
}

// expression returns an expression of the strings of all tails.
func (t *tree) expression() api.Regex {
	t.r = nil
	t.writeAhead(end)
	return t.r
}

// writeAhead writes what stands ahead of a tail in those that end with it.
func (t *tree) writeAhead(n int) {
	longer := t.longer[n]
	for i, next := range longer {
		t.writeTo(next)
		if i > 0 {
			t.add(api.Alt)
		}
	}
	switch {
	case len(longer) == 0:
		t.add(api.None)
	case t.left.has(n): // it may stand alone too
		t.add(api.Opt)
	}
}

// writeTo writes the head of a tail, behind what stands ahead of the tail.
func (t *tree) writeTo(n int) {
	head := t.tails.all[n].head
	if len(t.longer[n]) == 0 {
		t.write(head)
		return
	}
	t.writeAhead(n)
	t.write(head)
	t.add(api.Cat)
}

// write writes an expression of the book.
func (t *tree) write(n int) {
	e := t.exprs.all[n]
	for _, part := range e.operands[:rex.Takes(e.Kind)] {
		t.write(part)
	}
	t.r = append(t.r, e.Piece)
}

func (t *tree) add(kind int) {
	t.r = append(t.r, api.Piece{Kind: kind})
}
