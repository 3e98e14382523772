package deriv_test

import (
	"fmt"
	"math"
	"slices"
	"strings"
	"testing"

	"bosket/api"
	"bosket/byteset"
	"bosket/deriv"
	"bosket/rex"
)

// Pieces of which the tests make expressions.
var (
	none = api.Piece{Kind: api.None}
	cat  = api.Piece{Kind: api.Cat}
	alt  = api.Piece{Kind: api.Alt}
	star = api.Piece{Kind: api.Star}
	plus = api.Piece{Kind: api.Plus}
	opt  = api.Piece{Kind: api.Opt}
	a    = one('a')
	b    = one('b')
	aOrB = one('a', 'b')
)

var operands = []int{api.None: 0, api.One: 0, api.Cat: 2, api.Alt: 2, api.Star: 1, api.Plus: 1, api.Opt: 1}

// one returns the piece of some bytes.
func one(l ...byte) api.Piece { return api.Piece{Kind: api.One, Set: byteset.Of(l...)} }

// stars returns an expression of so many pieces: a and Stars.
func stars(n int) api.Regex { return append(api.Regex{a}, slices.Repeat(api.Regex{star}, n-1)...) }

// parsed returns the expression of a text.
func parsed(t *testing.T, s string) api.Regex {
	t.Helper()
	r, e := rex.Parse(s)
	if e != api.OK {
		t.Fatalf("Parse(%q): %d", s, e)
	}
	return r
}

// nested returns an expression of so many levels and of three pieces for each: a*, (a*[ax])*, ((a*[ax])*[ax])*. Behind a all levels remain, one after the other.
func nested(levels int) api.Regex {
	r := api.Regex{a, star}
	for range levels {
		r = append(r, one('a', 'x'), cat, star)
	}
	return r
}

// brief returns an expression for messages.
func brief(r api.Regex) string {
	if s := rex.Show(r); s != "" && len(s) < 200 {
		return s
	}
	s := fmt.Sprint(len(r), " pieces:")
	for _, p := range r[:min(len(r), 20)] {
		s += fmt.Sprintf(" %d", p.Kind)
	}
	return s
}

// A model is an expression with its operands inside, for matching.
type model struct {
	api.Piece
	parts []*model
	text  string     // of which the rest is told
	told  uint64     // bit i: to[i] is known
	to    [64]uint64 // where a string of the model may end that starts ahead of byte i of the text: bit j is for the place ahead of byte j
}

// modelOf returns the model of pieces of which each has its operands. False: they are not one expression.
func modelOf(r api.Regex) (*model, bool) {
	m, rest := modelAtEnd(r)
	return m, m != nil && len(rest) == 0
}

// modelAtEnd returns the model of the last expression, and what is ahead of that; nil: there is none.
func modelAtEnd(r api.Regex) (*model, api.Regex) {
	if len(r) == 0 {
		return nil, nil
	}
	m, rest := &model{Piece: r[len(r)-1]}, r[:len(r)-1]
	if m.Kind < 0 || m.Kind >= len(operands) || (m.Set == api.Set{}) == (m.Kind == api.One) {
		return nil, nil
	}
	for range operands[m.Kind] {
		var part *model
		part, rest = modelAtEnd(rest)
		if part == nil {
			return nil, nil
		}
		m.parts = slices.Insert(m.parts, 0, part)
	}
	return m, rest
}

// has tells whether a text of at most 63 bytes is a string of the model.
func (m *model) has(s string) bool { return m.ends(s, 0)>>len(s)&1 == 1 }

// ends returns where a string may end that starts ahead of byte i.
func (m *model) ends(s string, i int) uint64 {
	if m.text != s {
		m.text, m.told = s, 0
	}
	if m.told>>i&1 == 0 {
		m.to[i] = m.find(s, i)
		m.told |= 1 << i
	}
	return m.to[i]
}

func (m *model) find(s string, i int) uint64 {
	switch m.Kind {
	case api.None:
		return 1 << i
	case api.One:
		if i < len(s) && m.Set[s[i]/64]>>(s[i]%64)&1 == 1 {
			return 1 << (i + 1)
		}
		return 0
	case api.Cat:
		return m.parts[1].endsOfAll(s, m.parts[0].ends(s, i))
	case api.Alt:
		return m.parts[0].ends(s, i) | m.parts[1].ends(s, i)
	case api.Opt:
		return 1<<i | m.parts[0].ends(s, i)
	}
	to := m.parts[0].ends(s, i)
	for more := uint64(0); more != to; {
		more = to
		to |= m.parts[0].endsOfAll(s, to)
	}
	if m.Kind == api.Star {
		to |= 1 << i
	}
	return to
}

// endsOfAll returns where strings may end that start at one of some places.
func (m *model) endsOfAll(s string, from uint64) uint64 {
	var to uint64
	for i := range len(s) + 1 {
		if from>>i&1 == 1 {
			to |= m.ends(s, i)
		}
	}
	return to
}

// rows calls a function with all rows of at most so many of the pieces.
func rows(pieces []api.Piece, most int, call func(r api.Regex)) {
	var grow func(r api.Regex)
	grow = func(r api.Regex) {
		call(r)
		if len(r) < most {
			for _, p := range pieces {
				grow(append(slices.Clone(r), p))
			}
		}
	}
	grow(nil)
}

// small returns all valid expressions of at most 5 pieces of all kinds, and all of 7 pieces of some.
func small() []api.Regex {
	var l []api.Regex
	add := func(r api.Regex) {
		if _, ok := modelOf(r); ok {
			l = append(l, r)
		}
	}
	rows([]api.Piece{none, a, aOrB, cat, alt, star, plus, opt}, 5, add)
	rows([]api.Piece{a, b, cat, alt, star}, 7, add)
	return l
}

// larger returns the texts of expressions that are not small.
func larger() []string {
	return []string{
		"a(b|c)*d?", "(a|b)*a(a|b)(a|b)", "(ab|a)*(b|~)", "((a*b)*c)*", "((a+b?)+c?)+", "(a?b?c?)*", "(a|ab|abc)*c", "(a*b*)*(b*a*)*",
		"(a|(b|(c|~)))(a|~)", "~*a~+b~?", "(a(b(c|~)|~)|~)+", "((a|b)+c)?(a|b)+", "a+a*a?a", "((ab)+|(ba)+)*", "(aa|bb)*(ab|ba)?", "((a|b)(a|c))*",
		"a?b+|b?c+|c?a+", "((a?)*b)+", "((a*)?b)*", "(((a+)?)*)+b", "[a-b]*[b-c]+", ".*a.", "[^a]*a?", "(a|b|c)*abc", "ab+c|a*b|(a|b)*c",
	}
}

// texts returns all texts of at most so many of the bytes.
func texts(bytes string, most int) []string {
	l := []string{""}
	for from := 0; most > 0; most-- {
		to := len(l)
		for _, s := range l[from:to] {
			for i := range len(bytes) {
				l = append(l, s+bytes[i:i+1])
			}
		}
		from = to
	}
	return l
}

// remains checks that what remains of r behind a text has the strings that have to follow it, as far as these are among the given ones.
func remains(t *testing.T, call string, r api.Regex, behind string, got deriv.Left, follow []string) {
	t.Helper()
	whole, ok := modelOf(r)
	if !ok {
		t.Fatalf("%s is none", brief(r))
	}
	if got.Void {
		if len(got.R) != 0 {
			t.Errorf("%s: Void, and %s", call, brief(got.R))
		}
		for _, s := range follow {
			if whole.has(behind + s) {
				t.Fatalf("%s: Void, but %q is a string", call, behind+s)
			}
		}
		return
	}
	rest, ok := modelOf(got.R)
	if !ok {
		t.Fatalf("%s: %s is no expression", call, brief(got.R))
	}
	for _, s := range follow {
		if rest.has(s) != whole.has(behind+s) {
			t.Fatalf("%s: %s: that %q is a string is %v", call, brief(got.R), s, rest.has(s))
		}
	}
}

// startsSome tells whether a string of r that is one of the texts starts with another one.
func startsSome(r api.Regex, begin string, follow []string) bool {
	m, _ := modelOf(r)
	return slices.ContainsFunc(follow, func(s string) bool { return m.has(begin + s) })
}

// P5.1, P5.2, P5.3: all small expressions. Each of them that has a string that starts with a byte has one of at most 4 bytes.
func TestAllSmallOnes(t *testing.T) {
	follow := texts("abc", 3)
	for _, r := range small() {
		m, _ := modelOf(r)
		if got := deriv.Empty(r); got != m.has("") {
			t.Errorf("Empty(%s): %v", brief(r), got)
		}
		var first api.Set
		for _, c := range []byte("abc") {
			begin := string([]byte{c})
			got := deriv.By(r, c)
			remains(t, fmt.Sprintf("By(%s, %c)", brief(r), c), r, begin, got, follow)
			if got.Void == startsSome(r, begin, follow) {
				t.Errorf("By(%s, %c): Void: %v", brief(r), c, got.Void)
			}
			if !got.Void {
				first = byteset.Or(first, byteset.Of(c))
			}
		}
		if got := deriv.First(r); got != first {
			t.Errorf("First(%s): %x, want %x", brief(r), got, first)
		}
	}
}

// P5.2: Through all short texts, of all small expressions.
func TestThroughOfAllSmallOnes(t *testing.T) {
	follow := texts("ab", 3)
	for _, r := range small() {
		for _, s := range texts("ab", 3) {
			through(t, r, s, follow)
		}
	}
}

// P5.2: Through longer texts, of larger expressions.
func TestThroughOfLargerOnes(t *testing.T) {
	follow := texts("abc", 5)
	for _, text := range larger() {
		r := parsed(t, text)
		for _, s := range texts("abc", 4) {
			through(t, r, s, follow)
		}
		for _, s := range []string{"abababab", "aaaaaaaa", "cbacbacba", "bbbbcccc", "aabbccaabbcc"} {
			through(t, r, s, follow)
		}
	}
}

// P5.2: bytes are read one by one, whichever they are, and also where two of them are one rune.
func TestThroughOfAnyBytes(t *testing.T) {
	for _, bytes := range []string{"\x00\xff\x80", "\xc3\xa9\x00", "\xff\x00a"} {
		follow := texts(bytes, 3)
		for _, text := range larger() {
			r := renamed(parsed(t, text), bytes)
			for _, s := range append(texts(bytes, 4), "\xc3\xa9\xc3\xa9") {
				through(t, r, s, follow)
			}
		}
	}
}

// renamed returns an expression with the given bytes for a, b and c, and these for the given ones.
func renamed(r api.Regex, bytes string) api.Regex {
	var name [256]byte
	for x := range name {
		name[x] = byte(x)
	}
	for i := range len(bytes) {
		x, y := "abc"[i], bytes[i]
		name[x], name[y] = name[y], name[x]
	}
	r = slices.Clone(r)
	for i, p := range r {
		r[i].Set = api.Set{}
		for _, x := range byteset.List(p.Set) {
			r[i].Set = byteset.Or(r[i].Set, byteset.Of(name[x]))
		}
	}
	return r
}

// through checks a Through without a bound.
func through(t *testing.T, r api.Regex, s string, follow []string) {
	t.Helper()
	call := fmt.Sprintf("Through(%s, %q)", brief(r), s)
	got, n := deriv.Through(r, s, math.MaxInt)
	if !got.Void {
		if n != len(s) {
			t.Fatalf("%s: %d bytes", call, n)
		}
		remains(t, call, r, s, got, follow)
		return
	}
	if n < 0 || n >= len(s) {
		t.Fatalf("%s: Void, and %d bytes", call, n)
	}
	remains(t, call, r, s[:n+1], got, follow)
	if before, _ := deriv.Through(r, s[:n], math.MaxInt); before.Void {
		t.Fatalf("%s: Void behind %d bytes already", call, n)
	}
}

// P5.2: By of what remains of By, byte by byte, is what Through has.
func TestByAfterBy(t *testing.T) {
	follow := texts("abc", 4)
	for _, text := range larger() {
		r := parsed(t, text)
		for _, s := range []string{"abcabc", "aabbcc", "cccaaa", "bababa", strings.Repeat("ab", 20)} {
			left := deriv.Left{R: r}
			for i := range len(s) {
				left = deriv.By(left.R, s[i])
				remains(t, fmt.Sprintf("By of %s, up to %q", text, s[:i+1]), r, s[:i+1], left, follow)
				whole, _ := deriv.Through(r, s[:i+1], math.MaxInt)
				if left.Void != whole.Void {
					t.Fatalf("%s behind %q: Void: %v, and %v", text, s[:i+1], left.Void, whole.Void)
				}
				if left.Void {
					break
				}
			}
		}
	}
}
