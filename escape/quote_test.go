package escape_test

import (
	"strings"
	"testing"

	"bosket/escape"
)

// unquotes checks an Unquote.
func unquotes(t *testing.T, s string, q byte, want unquoted) {
	t.Helper()
	text, n, ok := escape.Unquote(s, q)
	if got := (unquoted{text, n, ok}); got != want {
		t.Errorf("Unquote(%q, %q): %#v, want %#v", s, q, got, want)
	}
}

// P3.2: Quote.

func TestQuote(t *testing.T) {
	cases := []struct {
		s    string
		q    byte
		want string
	}{
		{``, '"', `""`},
		{``, '/', `//`},
		{`abc`, '"', `"abc"`},
		{`a"b`, '"', `"a\"b"`}, // the example
		{`"`, '"', `"\""`},
		{`a/b`, '"', `"a/b"`},
		{`a/b`, '/', `/a\/b/`},
		{`a"b`, '/', `/a"b/`},
		{`a b`, ' ', ` a\ b `},
		{`~ !`, '~', `~\~ !~`},
		{`a_b`, '_', `_a\_b_`},
		{`\`, '"', `"\\"`},
		{`\n`, '"', `"\\n"`},
		{`\"`, '"', `"\\\""`},
		{"a\tb\r\n", '"', `"a\tb\r\n"`},
		{"\x00\x1f \x7f", '"', `"\x00\x1f \x7f"`},
		{"é", '"', `"\xc3\xa9"`},
		{"\xff\xfe", '"', `"\xff\xfe"`},
	}
	for _, c := range cases {
		if got := escape.Quote(c.s, c.q); got != c.want {
			t.Errorf("Quote(%q, %q): %s, want %s", c.s, c.q, got, c.want)
		}
	}
}

func TestQuoteIsByteOfEach(t *testing.T) {
	for _, s := range []string{"", every(), signs + quotes, `a\"b/c`, strings.Repeat("a\"\n", 30000)} {
		for _, q := range []byte(quotes) {
			want := []string{one(q)}
			for i := range len(s) {
				want = append(want, escape.Byte(s[i], one(q)))
			}
			want = append(want, one(q))
			if got := escape.Quote(s, q); got != strings.Join(want, "") {
				t.Errorf("Quote of %d bytes with %q: %q", len(s), q, got)
			}
		}
	}
}

// P3.2: Unquote.

func TestUnquote(t *testing.T) {
	cases := []struct {
		s    string
		q    byte
		want unquoted
	}{
		{`""`, '"', unquoted{"", 2, true}},
		{`""a`, '"', unquoted{"", 2, true}},
		{`"""`, '"', unquoted{"", 2, true}},
		{`"abc"`, '"', unquoted{"abc", 5, true}},
		{`"a\"b"`, '"', unquoted{`a"b`, 6, true}},
		{`"a\"b"c"`, '"', unquoted{`a"b`, 6, true}},
		{`/a\/b/ c`, '/', unquoted{"a/b", 6, true}},
		{`"a\/b"`, '"', unquoted{"a/b", 6, true}},
		{`"a/b"`, '"', unquoted{"a/b", 5, true}},
		{`"\\"`, '"', unquoted{`\`, 4, true}},
		{`"\\""`, '"', unquoted{`\`, 4, true}},
		{`"\\\""`, '"', unquoted{`\"`, 6, true}},
		{`"\n\t\r"`, '"', unquoted{"\n\t\r", 8, true}},
		{`"\x0a"`, '"', unquoted{"\n", 6, true}},
		{`"\x22"`, '"', unquoted{`"`, 6, true}},
		{`"\xff\x00"`, '"', unquoted{"\xff\x00", 10, true}},
		{"\"\t\r\x00\x7f\xff\"", '"', unquoted{"\t\r\x00\x7f\xff", 7, true}},
		{` a\ b `, ' ', unquoted{"a b", 6, true}},
		{`__`, '_', unquoted{"", 2, true}},
		{"\"a\"\n", '"', unquoted{"a", 3, true}},
		{`"a"\`, '"', unquoted{"a", 3, true}},
		{`"a"\q`, '"', unquoted{"a", 3, true}},
	}
	for _, c := range cases {
		unquotes(t, c.s, c.q, c.want)
	}
}

func TestUnquoteOfNoQuotedString(t *testing.T) {
	for _, s := range []string{
		// they do not start with q
		``, `a`, `a"b"`, ` ""`, `'a'`, `\"a"`, "\n\"\"",
		// they end
		`"`, `"a`, `"a\"`, `"\"`, `"\\\"`, `"a\n`, `"a'`, `"\x22`,
		// something cannot be read
		`"\`, `"\q"`, `"a\0"`, `"\A"`, `"\x"`, `"\x4"`, `"\xFF"`, `"\x4G"`, "\"\\\x7f\"", "\"\\\x1f\"", "\"\\\xff\"",
		// a line feed
		"\"\n\"", "\"a\nb\"", "\"a\n", "\"\\\n\"", "\"\\\\\n\"",
	} {
		unquotes(t, s, '"', unquoted{})
	}
	unquotes(t, `"a"`, '/', unquoted{})
	unquotes(t, `/a"`, '/', unquoted{})
	unquotes(t, `"a/`, '/', unquoted{})
}

func TestUnquoteOfEveryShortText(t *testing.T) {
	for _, q := range []byte{'"', '/', ' ', '_', '~', '^', '-', '.', '[', ']'} {
		model := modelUnquote(q)
		parts := []string{one(q), `\`, "n", "x", "4", "a", "F", "\n", "#", "\xe9"}
		each(parts, 4, func(s string) {
			unquotes(t, s, q, wantUnquote(model, s))
			unquotes(t, one(q)+s+one(q), q, wantUnquote(model, one(q)+s+one(q)))
		})
	}
}

// Each of its bytes alone, between every q, with and without a backslash.
func TestUnquoteOfEveryByte(t *testing.T) {
	for _, q := range []byte(quotes) {
		model := modelUnquote(q)
		for c := range 256 {
			for _, s := range []string{one(byte(c)), `\` + one(byte(c))} {
				s = one(q) + s + one(q) + "rest"
				unquotes(t, s, q, wantUnquote(model, s))
			}
		}
	}
}

// P3.4.

func TestQuotedStringsAreUnquoted(t *testing.T) {
	texts := []string{"", "a", every(), signs, quotes, strings.Repeat(`\`, 9), strings.Repeat("\"/\n", 20000), "x00", `\x0a`, "n", "é\xff"}
	rests := []string{"", "a", "\n", `\`, `\q`, "0", "n", "\x00", "\xff", ` "x"`}
	for _, q := range []byte(quotes) {
		for _, s := range texts {
			quoted := escape.Quote(s, q)
			for _, rest := range append(rests, one(q), quoted) {
				unquotes(t, quoted+rest, q, unquoted{s, len(quoted), true})
			}
		}
	}
}

func TestEveryShortQuotedStringIsUnquoted(t *testing.T) {
	for _, q := range []byte{'"', '/', ' ', '_', '~'} {
		parts := []string{one(q), `\`, "n", "x", "0", "a", "\n", "\t", "\x1f", "\xe9"}
		each(parts, 4, func(s string) {
			quoted := escape.Quote(s, q)
			unquotes(t, quoted, q, unquoted{s, len(quoted), true})
			unquotes(t, quoted+quoted, q, unquoted{s, len(quoted), true})
		})
	}
}

func TestEveryPairOfBytesIsUnquoted(t *testing.T) {
	for a := range 256 {
		for b := range 256 {
			s := one(byte(a)) + one(byte(b))
			quoted := escape.Quote(s, '"')
			unquotes(t, quoted+s, '"', unquoted{s, len(quoted), true})
		}
	}
}
