package rex_test

import (
	"fmt"
	"slices"
	"strings"
	"testing"

	"bosket/api"
	"bosket/byteset"
	"bosket/rex"
)

// Pieces of which the tests make expressions.
var (
	none = api.Piece{Kind: api.None}
	cat  = api.Piece{Kind: api.Cat}
	alt  = api.Piece{Kind: api.Alt}
	star = api.Piece{Kind: api.Star}
	plus = api.Piece{Kind: api.Plus}
	opt  = api.Piece{Kind: api.Opt}
	a    = of('a')
	b    = of('b')
	c    = of('c')
)

var operands = []int{api.None: 0, api.One: 0, api.Cat: 2, api.Alt: 2, api.Star: 1, api.Plus: 1, api.Opt: 1}

// of returns the piece of one byte.
func of(c byte) api.Piece { return api.Piece{Kind: api.One, Set: byteset.Of(c)} }

// stars returns an expression of so many pieces: a and Stars.
func stars(n int) api.Regex { return append(api.Regex{a}, slices.Repeat(api.Regex{star}, n-1)...) }

// brief returns the kinds and the first bytes of the first pieces, for messages.
func brief(r api.Regex) string {
	s := fmt.Sprint(len(r), " pieces:")
	for _, p := range r[:min(len(r), 20)] {
		s += fmt.Sprintf(" %d", p.Kind)
		if p.Set != (api.Set{}) {
			s += fmt.Sprintf("(%x)", p.Set)
		}
	}
	return s
}

func hex(c byte) string { return fmt.Sprintf(`\x%02x`, c) }

// modelByte returns what escape.Byte has to return.
func modelByte(c byte, others string) string {
	switch named := map[byte]string{'\n': `\n`, '\t': `\t`, '\r': `\r`, '\\': `\\`}[c]; {
	case named != "":
		return named
	case c < 32 || c > 126:
		return hex(c)
	case strings.Contains(others, string([]byte{c})):
		return `\` + string([]byte{c})
	}
	return string([]byte{c})
}

// wellFormed tells by taking operands away from the end, whether pieces are one expression.
func wellFormed(r api.Regex) bool {
	rest, ok := without(r)
	return ok && len(rest) == 0
}

// without returns what is ahead of the last expression.
func without(r api.Regex) (api.Regex, bool) {
	if len(r) == 0 {
		return nil, false
	}
	rest, ok := r[:len(r)-1], true
	for range operands[r[len(r)-1].Kind] {
		if ok {
			rest, ok = without(rest)
		}
	}
	return rest, ok
}

// rows calls a function with all rows of at most so many of the pieces.
func rows(pieces []api.Piece, most int, call func(r api.Regex)) {
	var grow func(r api.Regex)
	grow = func(r api.Regex) {
		call(r)
		if len(r) < most {
			for _, p := range pieces {
				grow(append(slices.Clone(r), p))
			}
		}
	}
	grow(nil)
}

// valid returns expressions of all shapes: all of at most 6 pieces of a few kinds, and some that are bigger.
func valid() []api.Regex {
	l := []api.Regex{stars(400), rex.Word(every()[:200]), append(rex.Word(every()[56:]), star)}
	rows([]api.Piece{none, a, cat, alt, star}, 6, func(r api.Regex) {
		if wellFormed(r) {
			l = append(l, r)
		}
	})
	return l
}

// texts calls a function with all texts of at most so many of the parts.
func texts(parts []string, most int, call func(s string)) {
	var grow func(s string, left int)
	grow = func(s string, left int) {
		call(s)
		if left > 0 {
			for _, p := range parts {
				grow(s+p, left-1)
			}
		}
	}
	grow("", most)
}

// every returns a text of all bytes in order.
func every() string {
	var l []byte
	for c := range 256 {
		l = append(l, byte(c))
	}
	return string(l)
}

// The model of Parse tries all ways to part a text, as the productions of P4.3 tell it. It returns all expressions that it finds.
type model struct {
	known map[string][]api.Regex
}

func (m model) once(rule, s string, find func() []api.Regex) []api.Regex {
	l, ok := m.known[rule+s]
	if !ok {
		l = find()
		m.known[rule+s] = l
	}
	return l
}

// alternative: a sequence, or an alternative, | and a sequence.
func (m model) alternative(s string) []api.Regex {
	return m.once("A", s, func() []api.Regex {
		l := slices.Clone(m.sequence(s))
		for i := range len(s) {
			if s[i] == '|' {
				l = append(l, pairs(m.alternative(s[:i]), m.sequence(s[i+1:]), alt)...)
			}
		}
		return l
	})
}

// sequence: a repetition, or a sequence and a repetition.
func (m model) sequence(s string) []api.Regex {
	return m.once("S", s, func() []api.Regex {
		l := slices.Clone(m.repetition(s))
		for i := 1; i < len(s); i++ {
			l = append(l, pairs(m.sequence(s[:i]), m.repetition(s[i:]), cat)...)
		}
		return l
	})
}

// repetition: an atom, or a repetition and a sign.
func (m model) repetition(s string) []api.Regex {
	return m.once("R", s, func() []api.Regex {
		l := slices.Clone(m.atom(s))
		for sign, p := range map[string]api.Piece{"*": star, "+": plus, "?": opt} {
			if head, ok := strings.CutSuffix(s, sign); ok {
				for _, r := range m.repetition(head) {
					l = append(l, append(slices.Clone(r), p))
				}
			}
		}
		return l
	})
}

func (m model) atom(s string) []api.Regex {
	if s == "." {
		return []api.Regex{{{Kind: api.One, Set: byteset.Full()}}}
	}
	if s == "~" {
		return []api.Regex{{none}}
	}
	if c, ok := modelRead(s, `|)*+?]/"([.~`); ok {
		return []api.Regex{{of(c)}}
	}
	if len(s) >= 2 && s[0] == '(' && s[len(s)-1] == ')' {
		return m.alternative(s[1 : len(s)-1])
	}
	if len(s) >= 2 && s[0] == '[' && s[len(s)-1] == ']' {
		return m.set(s[1 : len(s)-1])
	}
	return nil
}

func (m model) set(s string) []api.Regex {
	inner, complement := strings.CutPrefix(s, "^")
	var l []api.Regex
	for _, found := range m.spans(inner) {
		if complement {
			found = byteset.Not(found)
		}
		if found != (api.Set{}) {
			l = append(l, api.Regex{{Kind: api.One, Set: found}})
		}
	}
	return l
}

// spans: nothing, or spans and a byte or two.
func (m model) spans(s string) []api.Set {
	if s == "" {
		return []api.Set{{}}
	}
	var l []api.Set
	for i := range len(s) {
		for _, found := range m.spans(s[:i]) {
			if c, ok := modelRead(s[i:], `/]^-"`); ok {
				l = append(l, byteset.Or(found, byteset.Of(c)))
			}
			for j := i; j < len(s); j++ {
				from, ok := modelRead(s[i:j], `/]^-"`)
				to, ok2 := modelRead(s[j+1:], `/]^-"`)
				if s[j] == '-' && ok && ok2 && from <= to {
					l = append(l, byteset.Or(found, byteset.Range(from, to)))
				}
			}
		}
	}
	return l
}

// modelRead tells whether a text is one byte as a whole, and none of the special ones without a backslash.
func modelRead(s, special string) (byte, bool) {
	if len(s) == 1 && strings.Contains(special, s) {
		return 0, false
	}
	c, ok := byteTexts[s]
	return c, ok
}

// byteTexts holds all texts of all bytes.
var byteTexts = func() map[string]byte {
	m := map[string]byte{}
	for c := range 256 {
		bare := string([]byte{byte(c)})
		if strings.Contains(" !\"#$%&'()*+,-./:;<=>?@[\\]^_`{|}~", bare) {
			m[`\`+bare] = byte(c)
		}
		if bare != `\` {
			m[bare] = byte(c)
		}
		m[modelByte(byte(c), "")] = byte(c)
		m[hex(byte(c))] = byte(c)
	}
	return m
}()

// pairs joins each of a list with each of another one.
func pairs(first, second []api.Regex, p api.Piece) []api.Regex {
	var l []api.Regex
	for _, x := range first {
		for _, y := range second {
			l = append(l, append(slices.Concat(x, y), p))
		}
	}
	return l
}

// agrees checks a Parse of a text that is neither long nor deep.
func (m model) agrees(t *testing.T, s string) {
	t.Helper()
	switch want := m.alternative(s); len(want) {
	case 0:
		fails(t, s, api.ErrRegex)
	case 1:
		parses(t, s, want[0]...)
	default:
		t.Fatalf("the model finds %d expressions in %q", len(want), s)
	}
}

// P4.3: all short texts.
func TestParseOfAllShortTexts(t *testing.T) {
	m := model{map[string][]api.Regex{}}
	texts([]string{"a", "|", "(", ")", "*", "~"}, 7, func(s string) { m.agrees(t, s) })
	texts([]string{"a", "-", "|", "?", "+", ".", "(", ")", "[", "]", "^"}, 5, func(s string) { m.agrees(t, s) })
	m = model{map[string][]api.Regex{}}
	texts([]string{"a", "b", "-", "^", "[", "]", `\`, "n"}, 4, func(s string) {
		m.agrees(t, s)
		m.agrees(t, "["+s)
		m.agrees(t, "["+s+"]")
		m.agrees(t, "[^"+s+"]")
		m.agrees(t, "[a"+s+"]b")
	})
	m = model{map[string][]api.Regex{}}
	texts([]string{`\`, "x", "4", "f", "n", "/", `"`, "-"}, 4, func(s string) {
		m.agrees(t, s)
		m.agrees(t, "["+s+"]")
	})
}

// P4.4: what is shown is read back.

// readsBack checks that the text of an expression is parsed to it.
func readsBack(t *testing.T, r api.Regex) {
	t.Helper()
	s := rex.Show(r)
	if s == "" {
		t.Fatalf("no text of %s", brief(r))
	}
	if got, e := rex.Parse(s); e != api.OK || !slices.Equal(got, r) {
		t.Errorf("%s is shown as %q and parsed as %s, %d", brief(r), s, brief(got), e)
	}
}

func TestTextsAreReadBack(t *testing.T) {
	for _, r := range valid() {
		readsBack(t, r)
	}
	rows([]api.Piece{a, cat, alt, plus}, 8, func(r api.Regex) {
		if wellFormed(r) {
			readsBack(t, r)
		}
	})
}

func TestTextsOfSetsAreReadBack(t *testing.T) {
	for i := range 256 {
		for j := range 256 {
			s := byteset.Or(byteset.Of(byte(i)), byteset.Of(byte(j)))
			readsBack(t, api.Regex{{Kind: api.One, Set: s}})
			readsBack(t, api.Regex{{Kind: api.One, Set: byteset.Not(s)}})
			if i <= j {
				s = byteset.Range(byte(i), byte(j))
				readsBack(t, api.Regex{{Kind: api.One, Set: s}})
				readsBack(t, api.Regex{a, {Kind: api.One, Set: byteset.Or(s, byteset.Of(']', '-', '^'))}, cat})
			}
		}
	}
	for n := range 300 {
		readsBack(t, api.Regex{{Kind: api.One, Set: someSet(n)}, star, {Kind: api.One, Set: someSet(n + 1)}, alt})
	}
}

// someSet returns a set of bytes that are spread without a plain rule.
func someSet(n int) api.Set {
	s := byteset.Of(byte(n))
	for c := range 256 {
		if (c*c+c*n+n/3)%7 < n%6+1 {
			s = byteset.Or(s, byteset.Of(byte(c)))
		}
	}
	return s
}

// P4.4: the bounds of Parse alone keep a text from being read back.
func TestTextsAtTheBounds(t *testing.T) {
	nested := func(n int) api.Regex {
		r := slices.Repeat(api.Regex{a}, n+2)
		return append(r, slices.Repeat(api.Regex{cat}, n+1)...)
	}
	readsBack(t, nested(99))
	fails(t, rex.Show(nested(100)), api.ErrRegex)

	long := tens(160)
	if n := len(rex.Show(long)); n != 1600 {
		t.Fatalf("%d bytes, want 1600", n)
	}
	readsBack(t, long)
	long[0].Set = byteset.Of(0, 2, 'a')
	fails(t, rex.Show(long), api.ErrBig)
}

// tens returns a row of so many sets whose texts have 10 bytes each.
func tens(n int) api.Regex {
	r := api.Regex{{Kind: api.One, Set: byteset.Of(0, 2)}}
	for range n - 1 {
		r = append(r, r[0], cat)
	}
	return r
}
