package rex_test

import (
	"slices"
	"strings"
	"testing"

	"bosket/api"
	"bosket/byteset"
	"bosket/rex"
)

// parses checks a Parse that returns an expression.
func parses(t *testing.T, s string, want ...api.Piece) {
	t.Helper()
	if got, e := rex.Parse(s); e != api.OK || !slices.Equal(got, want) {
		t.Errorf("Parse(%q): %s, %d, want %s", s, brief(got), e, brief(want))
	}
}

// fails checks a Parse that returns an error.
func fails(t *testing.T, s string, want api.Errno) {
	t.Helper()
	if got, e := rex.Parse(s); e != want || len(got) != 0 {
		t.Errorf("Parse(%q): %s, %d, want %d", s, brief(got), e, want)
	}
}

// parsesSet checks a Parse of one set.
func parsesSet(t *testing.T, s string, want api.Set) {
	t.Helper()
	parses(t, s, api.Piece{Kind: api.One, Set: want})
}

// The example of the chapter.
func TestExample(t *testing.T) {
	abc := api.Piece{Kind: api.One, Set: byteset.Range('a', 'c')}
	parses(t, "[a-c]*x", abc, star, of('x'), cat)
	shows(t, api.Regex{abc, star, of('x'), cat}, "[a-c]*x")
}

// P4.3: how alternatives, sequences and repetitions are grouped.

func TestParse(t *testing.T) {
	parses(t, "a", a)
	parses(t, "~", none)
	parses(t, ".", api.Piece{Kind: api.One, Set: byteset.Full()})
	parses(t, "ab", a, b, cat)
	parses(t, "abc", a, b, cat, c, cat)
	parses(t, "a(bc)", a, b, c, cat, cat)
	parses(t, "a|b", a, b, alt)
	parses(t, "a|b|c", a, b, alt, c, alt)
	parses(t, "a|(b|c)", a, b, c, alt, alt)
	parses(t, "a|bc", a, b, c, cat, alt)
	parses(t, "ab|c", a, b, cat, c, alt)
	parses(t, "(a|b)c", a, b, alt, c, cat)
	parses(t, "a(b|c)", a, b, c, alt, cat)
	parses(t, "~|a~", none, a, none, cat, alt)
}

func TestParseOfRepetitions(t *testing.T) {
	parses(t, "a*", a, star)
	parses(t, "a+", a, plus)
	parses(t, "a?", a, opt)
	parses(t, "a*+?*", a, star, plus, opt, star)
	parses(t, "ab*", a, b, star, cat)
	parses(t, "(ab)*", a, b, cat, star)
	parses(t, "a|b+", a, b, plus, alt)
	parses(t, "(a|b)+", a, b, alt, plus)
	parses(t, "~?", none, opt)
	parses(t, "[a]?b", a, opt, b, cat)
}

// Parentheses add no pieces.
func TestParseOfParentheses(t *testing.T) {
	parses(t, "(a)", a)
	parses(t, "((a))", a)
	parses(t, "(a)(b)", a, b, cat)
	parses(t, "((ab)c)", a, b, cat, c, cat)
	parses(t, "(a*)*", a, star, star)
	parses(t, "(~)", none)
}

func TestParseOfDeepParentheses(t *testing.T) {
	deep := func(n int) string { return strings.Repeat("(", n) + "a" + strings.Repeat(")", n) }
	parses(t, deep(98), a)
	parses(t, deep(99), a)
	fails(t, deep(100), api.ErrRegex)
	fails(t, deep(700), api.ErrRegex)
	fails(t, "(b|"+deep(99)+")", api.ErrRegex)
	fails(t, strings.Repeat("(", 1600), api.ErrRegex)
	// Those that are closed do not count.
	parses(t, deep(99)+deep(99), a, a, cat)
	parses(t, deep(99)+"*|"+deep(99), a, star, a, alt)
	fails(t, deep(99)+deep(100), api.ErrRegex)
	parses(t, "("+deep(98)+deep(98)+")", a, a, cat)
}

// Within a set, or behind a backslash, they are bytes.
func TestParseOfParenthesesThatAreBytes(t *testing.T) {
	parses(t, strings.Repeat(`\(`, 100), rex.Word(strings.Repeat("(", 100))...)
	parses(t, strings.Repeat("[(]", 100), rex.Word(strings.Repeat("(", 100))...)
}

// P4.3: bytes.

func TestParseOfBytes(t *testing.T) {
	for c := range 256 {
		s := string([]byte{byte(c)})
		if strings.Contains(`|)*+?]/"([.~\`, s) {
			if s != "." && s != "~" {
				fails(t, s, api.ErrRegex)
				fails(t, "|"+s, api.ErrRegex)
			}
		} else {
			parses(t, s, of(byte(c)))
			parses(t, "a"+s, a, of(byte(c)), cat)
		}
		parses(t, modelByte(byte(c), `|)*+?]/"([.~`), of(byte(c)))
		parses(t, hex(byte(c)), of(byte(c)))
	}
}

func TestParseOfEscapeSequences(t *testing.T) {
	parses(t, `\n\t`, of('\n'), of('\t'), cat)
	parses(t, `\r`, of('\r'))
	parses(t, `\\`, of('\\'))
	parses(t, `\-\^\ `, of('-'), of('^'), cat, of(' '), cat)
	parses(t, `\.*`, of('.'), star)
	for _, s := range []string{`\`, `a\`, `\a`, `\1`, `\x`, `\x4`, `\xAB`, `\xg0`, "\\\n", "\\\x00", "\\\xff", `[\a]`, `[a-\a]`, `[\`, `[\]`} {
		fails(t, s, api.ErrRegex)
	}
}

// P4.3: sets.

func TestParseOfSets(t *testing.T) {
	parsesSet(t, "[a]", byteset.Of('a'))
	parsesSet(t, "[ba]", byteset.Of('a', 'b'))
	parsesSet(t, "[aa]", byteset.Of('a'))
	parsesSet(t, "[a-c]", byteset.Range('a', 'c'))
	parsesSet(t, "[a-a]", byteset.Of('a'))
	parsesSet(t, "[a-cb-dx]", byteset.Or(byteset.Range('a', 'd'), byteset.Of('x')))
	parsesSet(t, "[xa-c]", byteset.Or(byteset.Range('a', 'c'), byteset.Of('x')))
	parsesSet(t, "[^a]", byteset.Not(byteset.Of('a')))
	parsesSet(t, "[^a-cx]", byteset.Not(byteset.Or(byteset.Range('a', 'c'), byteset.Of('x'))))
	parsesSet(t, `[\^]`, byteset.Of('^'))
	parsesSet(t, `[^\^]`, byteset.Not(byteset.Of('^')))
	parsesSet(t, `[\]]`, byteset.Of(']'))
	parsesSet(t, `[a\-z]`, byteset.Of('a', '-', 'z'))
	parsesSet(t, `[+-\-]`, byteset.Range('+', '-'))
	parsesSet(t, `[\--0]`, byteset.Range('-', '0'))
	parsesSet(t, `[\\-\]]`, byteset.Range('\\', ']'))
	parsesSet(t, `[\n\x00-\x0f]`, byteset.Range(0, 15))
	parsesSet(t, "[|)*+?([.~]", byteset.Of('|', ')', '*', '+', '?', '(', '[', '.', '~'))
	parsesSet(t, "[\x00-\xff]", byteset.Full())
	parsesSet(t, "[é]", byteset.Of(0xc3, 0xa9))
}

func TestParseOfBytesOfSets(t *testing.T) {
	for c := range 256 {
		s := string([]byte{byte(c)})
		if strings.Contains(`/]^-"\`, s) {
			fails(t, "[a"+s+"]", api.ErrRegex)
			fails(t, "[!-"+s+"]", api.ErrRegex)
		} else {
			parsesSet(t, "["+s+"]", byteset.Of(byte(c)))
			parsesSet(t, "[^"+s+"]", byteset.Not(byteset.Of(byte(c))))
			parsesSet(t, `[\x00-`+s+"]", byteset.Range(0, byte(c)))
			parsesSet(t, "["+s+`-\xff]`, byteset.Range(byte(c), 255))
		}
		parsesSet(t, "["+modelByte(byte(c), `/]^-"`)+"]", byteset.Of(byte(c)))
		parsesSet(t, "["+hex(byte(c))+"]", byteset.Of(byte(c)))
	}
}

func TestParseOfEmptyAndFullSets(t *testing.T) {
	fails(t, "[]", api.ErrRegex)
	parsesSet(t, "[^]", byteset.Full())
	parses(t, "[^]*", api.Piece{Kind: api.One, Set: byteset.Full()}, star)
	fails(t, `[^\x00-\xff]`, api.ErrRegex)
	fails(t, `[^\x00-a\x80-\xffb-\x7f]`, api.ErrRegex)
	parsesSet(t, `[^\x00-\xfe]`, byteset.Of(255))
	parsesSet(t, `[^\x01-\xff]`, byteset.Of(0))
	parsesSet(t, `[\x00-\xff]`, byteset.Full())
	fails(t, "a|[]", api.ErrRegex)
	fails(t, `([^\x00-\xff])`, api.ErrRegex)
}

func TestParseOfWrongSets(t *testing.T) {
	for _, s := range []string{
		"[b-a]", `[\xff-\x00]`, "[a-cz-y]", "[^b-a]", `[\]-\\]`, // a second byte that is smaller
		"[", "[a", "[a-", "[a-b", "[^", "[^a", "a]", "[a]]", // brackets that are missing
		"[a-]", "[-a]", "[-]", "[--a]", "[a-b-c]", "[a--]", "[^-]", "[a^]", "[^^]", "[a-^]", "[/]", `["]`, "[!-/]", `[!-"]`,
	} {
		fails(t, s, api.ErrRegex)
	}
	for a := range 256 {
		for _, b := range []int{a - 1, 0} {
			if 0 <= b && b < a {
				fails(t, "["+hex(byte(a))+"-"+hex(byte(b))+"]", api.ErrRegex)
			}
		}
	}
}

// P4.3: texts that are no alternative as a whole.

func TestParseOfWrongTexts(t *testing.T) {
	for _, s := range []string{
		"", "|", "a|", "|a", "a||b", "(", ")", "()", "(a", "a)", "(a))", "((a)", "(a|)", "(|a)", "a()", "(a)(", "a|)",
		"*", "+", "?", "*a", "a|*", "(*a)", "(+)", "|*", "/", `"`, "a/", `a"`, "a/b", "]", "a]", "(a]", "[(a])",
	} {
		fails(t, s, api.ErrRegex)
	}
}

// P4.3: long texts, and texts of big expressions.

func TestParseOfLongTexts(t *testing.T) {
	parses(t, "["+strings.Repeat("a", 1598)+"]", a)
	fails(t, "["+strings.Repeat("a", 1599)+"]", api.ErrBig)
	parses(t, "("+strings.Repeat(`\x61`, 200)+")*", append(rex.Word(strings.Repeat("a", 200)), star)...)
	fails(t, strings.Repeat("(", 1600), api.ErrRegex)
	fails(t, strings.Repeat("(", 1601), api.ErrBig)
	fails(t, strings.Repeat("a", 1599)+"/", api.ErrRegex)
	fails(t, strings.Repeat("a", 1600)+"/", api.ErrBig)
	fails(t, strings.Repeat("a", 1601), api.ErrBig)
	fails(t, strings.Repeat("*", 20*api.MaxText), api.ErrBig)
}

func TestParseOfManyPieces(t *testing.T) {
	parses(t, "a"+strings.Repeat("*", 399), stars(400)...)
	fails(t, "a"+strings.Repeat("*", 400), api.ErrBig)
	fails(t, strings.Repeat("a", 201), api.ErrBig)
	fails(t, strings.Repeat("a", 1600), api.ErrBig)
	fails(t, strings.Repeat("a|", 200)+"a", api.ErrBig)
	parses(t, strings.Repeat("a|", 199)+"a*", append(append(api.Regex{a}, slices.Repeat(api.Regex{a, alt}, 198)...), a, star, alt)...)
	// ErrRegex is told first.
	fails(t, "a"+strings.Repeat("*", 500)+")", api.ErrRegex)
	fails(t, strings.Repeat("a", 1000)+"[]", api.ErrRegex)
}
