package rex

import (
	"strings"

	"bosket/api"
	"bosket/byteset"
	"bosket/escape"
)

const (
	longestText = 4 * api.MaxRegex
	deepest     = 99 // parentheses inside one another
)

// Parse returns the expression of a text. ErrBig: the text has too many bytes, or the expression too many pieces; ErrRegex: it is the text of none.
func Parse(s string) (api.Regex, api.Errno) {
	if len(s) > longestText {
		return nil, api.ErrBig
	}
	p := parser{rest: s}
	switch {
	case !p.alternative() || p.rest != "":
		return nil, api.ErrRegex
	case len(p.r) > api.MaxRegex:
		return nil, api.ErrBig
	}
	return p.r, api.OK
}

// A parser reads a text from its beginning. Operands are read ahead of the piece that takes them, so that the pieces come in their order. Its methods report whether they read what they are named after; once one did not, the text is given up.
type parser struct {
	rest  string
	r     api.Regex
	depth int // parentheses that are open
}

// alternative reads sequences with | between them.
func (p *parser) alternative() bool {
	if !p.sequence() {
		return false
	}
	for p.skip('|') {
		if !p.sequence() {
			return false
		}
		p.add(api.Alt, api.Set{})
	}
	return true
}

// sequence reads repetitions up to a |, a closing parenthesis or the end.
func (p *parser) sequence() bool {
	if !p.repetition() {
		return false
	}
	for p.rest != "" && p.rest[0] != '|' && p.rest[0] != ')' {
		if !p.repetition() {
			return false
		}
		p.add(api.Cat, api.Set{})
	}
	return true
}

// repetition reads an atom and the signs behind it.
func (p *parser) repetition() bool {
	if !p.atom() {
		return false
	}
	for p.rest != "" {
		sign := strings.IndexByte(repeats, p.rest[0])
		if sign < 0 {
			break
		}
		p.rest = p.rest[1:]
		p.add(api.Star+sign, api.Set{})
	}
	return true
}

func (p *parser) atom() bool {
	switch {
	case p.skip('.'):
		p.add(api.One, byteset.Full())
	case p.skip('~'):
		p.add(api.None, api.Set{})
	case p.skip('('):
		return p.group()
	case p.skip('['):
		return p.set()
	default:
		c, ok := p.read(outsideSets)
		p.add(api.One, byteset.Of(c))
		return ok
	}
	return true
}

// group reads what stands behind an opening parenthesis.
func (p *parser) group() bool {
	p.depth++
	if p.depth > deepest || !p.alternative() || !p.skip(')') {
		return false
	}
	p.depth--
	return true
}

// set reads what stands behind an opening bracket.
func (p *parser) set() bool {
	complement := p.skip('^')
	var s api.Set
	for !p.skip(']') {
		span, ok := p.span()
		if !ok {
			return false
		}
		s = byteset.Or(s, span)
	}
	if complement {
		s = byteset.Not(s)
	}
	p.add(api.One, s)
	return !byteset.Empty(s)
}

// span reads a byte of a set, or two with - between them.
func (p *parser) span() (api.Set, bool) {
	from, ok := p.read(insideSets)
	to := from
	if ok && p.skip('-') {
		to, ok = p.read(insideSets)
	}
	return byteset.Range(from, to), ok && from <= to
}

// read reads a byte that is none of the special ones, unless a backslash is ahead of it.
func (p *parser) read(special string) (byte, bool) {
	c, n, ok := escape.Read(p.rest)
	if !ok || n == 1 && strings.IndexByte(special, c) >= 0 {
		return 0, false
	}
	p.rest = p.rest[n:]
	return c, true
}

// skip reads one certain byte.
func (p *parser) skip(c byte) bool {
	if p.rest == "" || p.rest[0] != c {
		return false
	}
	p.rest = p.rest[1:]
	return true
}

func (p *parser) add(kind int, s api.Set) {
	p.r = append(p.r, api.Piece{Kind: kind, Set: s})
}
