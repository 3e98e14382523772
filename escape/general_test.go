package escape_test

import (
	"slices"
	"strings"
	"testing"

	"bosket/api"
	"bosket/escape"
)

// samples are texts of all kinds.
func samples() []string {
	return []string{
		"", "a", "a_9", `\`, `\\`, `\n`, `\q`, `\x`, `\x4`, `\x41`, `\xFF`, "\n", "\\\n",
		`"`, `""`, `"a"`, `"a`, `"\`, `"\"`, `"\x4`, "\"\n\"", "é\xff\x00", every(),
		strings.Repeat(`\`, 501), strings.Repeat(`"\"`, 500), `"` + strings.Repeat(`\"`, 500) + `"`, strings.Repeat("a", 41),
	}
}

// P1: every call ends and does not panic, for any q and any others, even for those for which the document tells nothing.
func TestEveryCallEnds(t *testing.T) {
	l := samples()
	for c := range 256 {
		escape.Class(byte(c))
		for _, s := range l {
			escape.Byte(byte(c), s)
			escape.Quote(s, byte(c))
			escape.Unquote(s, byte(c))
			escape.Unquote(one(byte(c))+s, byte(c))
			escape.Unquote(one(byte(c))+s+one(byte(c)), byte(c))
			escape.Unquote(escape.Quote(s, byte(c)), byte(c))
		}
	}
	for _, s := range l {
		for i := range len(s) {
			escape.Read(s[i:])
			escape.Name(s[i:])
			escape.Check(s[i:])
		}
	}
}

// P1: long texts are read in one go.
func TestLongTexts(t *testing.T) {
	s := strings.Repeat("\"\\\n\x00a", 20*api.MaxText)
	quoted := escape.Quote(s, '"')
	unquotes(t, quoted, '"', unquoted{s, len(quoted), true})
	unquotes(t, quoted[:len(quoted)-1], '"', unquoted{})
}

// P2, rule 4: a call answers the same, whatever was called before.
func TestCallsAnswerTheSameAgain(t *testing.T) {
	round := func() []any {
		var got []any
		for _, s := range samples() {
			c, n, ok := escape.Read(s)
			text, m, found := escape.Unquote(s, '"')
			got = append(got, c, n, ok, text, m, found, escape.Quote(s, '"'), escape.Byte('"', s), escape.Name(s), escape.Check(s))
		}
		return got
	}
	before := round()
	for _, s := range samples() {
		escape.Quote(s, '/')
		escape.Unquote(s, '/')
		escape.Byte('/', s)
	}
	if after := round(); !slices.Equal(before, after) {
		t.Errorf("%v, and then %v", before, after)
	}
}
