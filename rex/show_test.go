package rex_test

import (
	"slices"
	"strings"
	"testing"

	"bosket/api"
	"bosket/byteset"
	"bosket/rex"
)

// shows checks a Show.
func shows(t *testing.T, r api.Regex, want string) {
	t.Helper()
	if got := rex.Show(r); got != want {
		t.Errorf("Show(%s): %q, want %q", brief(r), got, want)
	}
}

// showsSet checks the text of one set.
func showsSet(t *testing.T, s api.Set, want string) {
	t.Helper()
	shows(t, api.Regex{{Kind: api.One, Set: s}}, want)
}

// P4.2: which parentheses are written.

func TestShow(t *testing.T) {
	shows(t, api.Regex{none}, "~")
	shows(t, api.Regex{a}, "a")
	shows(t, api.Regex{a, b, cat}, "ab")
	shows(t, api.Regex{a, b, alt}, "a|b")
	shows(t, api.Regex{none, b, alt}, "~|b")
	shows(t, api.Regex{a, none, cat}, "a~")
	shows(t, api.Regex{of('('), none, alt}, `\(|~`)
}

func TestShowOfRepetitions(t *testing.T) {
	for sign, kind := range map[string]int{"*": api.Star, "+": api.Plus, "?": api.Opt} {
		repeat := api.Piece{Kind: kind}
		shows(t, api.Regex{a, repeat}, "a"+sign)
		shows(t, api.Regex{none, repeat}, "~"+sign)
		shows(t, api.Regex{a, star, repeat}, "a*"+sign)
		shows(t, api.Regex{a, repeat, opt}, "a"+sign+"?")
		shows(t, api.Regex{a, b, cat, repeat}, "(ab)"+sign)
		shows(t, api.Regex{a, b, alt, repeat}, "(a|b)"+sign)
		shows(t, api.Regex{a, b, alt, repeat, plus}, "(a|b)"+sign+"+")
		shows(t, api.Regex{{Kind: api.One, Set: byteset.Range('a', 'c')}, repeat}, "[a-c]"+sign)
	}
}

func TestShowOfOperandsOfCat(t *testing.T) {
	shows(t, api.Regex{a, b, cat, c, cat}, "abc")
	shows(t, api.Regex{a, b, c, cat, cat}, "a(bc)")
	shows(t, api.Regex{a, b, alt, c, cat}, "(a|b)c")
	shows(t, api.Regex{a, b, c, alt, cat}, "a(b|c)")
	shows(t, api.Regex{a, star, b, cat}, "a*b")
	shows(t, api.Regex{a, b, opt, cat}, "ab?")
	shows(t, api.Regex{a, b, cat, star, c, cat}, "(ab)*c")
	shows(t, api.Regex{a, b, cat, c, a, cat, cat}, "ab(ca)")
	shows(t, api.Regex{a, b, alt, c, a, alt, cat}, "(a|b)(c|a)")
}

func TestShowOfOperandsOfAlt(t *testing.T) {
	shows(t, api.Regex{a, b, alt, c, alt}, "a|b|c")
	shows(t, api.Regex{a, b, c, alt, alt}, "a|(b|c)")
	shows(t, api.Regex{a, b, cat, c, alt}, "ab|c")
	shows(t, api.Regex{a, b, c, cat, alt}, "a|bc")
	shows(t, api.Regex{a, b, c, cat, cat, a, alt}, "a(bc)|a")
	shows(t, api.Regex{a, star, b, plus, alt}, "a*|b+")
	shows(t, api.Regex{a, b, alt, c, a, alt, alt}, "a|b|(c|a)")
}

// P4.2: the text of a One.

func TestShowOfOneByte(t *testing.T) {
	for c := range 256 {
		showsSet(t, byteset.Of(byte(c)), modelByte(byte(c), `/()[]|*+?."~`))
	}
	for _, want := range []string{`\/`, `\(`, `\)`, `\[`, `\]`, `\|`, `\*`, `\+`, `\?`, `\.`, `\"`, `\~`, `\\`, "^", "-", " ", "{", "}", "$", "'", "a", "0"} {
		showsSet(t, byteset.Of(want[len(want)-1]), want)
	}
	showsSet(t, byteset.Of('\n'), `\n`)
	showsSet(t, byteset.Of('\t'), `\t`)
	showsSet(t, byteset.Of('\r'), `\r`)
	showsSet(t, byteset.Of(0), `\x00`)
	showsSet(t, byteset.Of(0xff), `\xff`)
}

func TestShowOfBytesOfSpans(t *testing.T) {
	for c := range 254 {
		from, to := byte(c), byte(c+2)
		first, last := modelByte(from, `/]^-"`), modelByte(to, `/]^-"`)
		showsSet(t, byteset.Of(from, to), "["+first+last+"]")
		showsSet(t, byteset.Range(from, to), "["+first+"-"+last+"]")
		showsSet(t, byteset.Not(byteset.Of(from, to)), "[^"+first+last+"]")
		showsSet(t, byteset.Not(byteset.Range(from, to)), "[^"+first+"-"+last+"]")
	}
	showsSet(t, byteset.Of('/', ']', '^', '-', '"', '\\'), `[\"\-\/\\-\^]`)
	showsSet(t, byteset.Of('(', ')', '*', '.', '|', '~', '?', '['), `[(-*.?[|~]`)
}

func TestShowOfSpans(t *testing.T) {
	showsSet(t, byteset.Range('a', 'b'), "[a-b]")
	showsSet(t, byteset.Range('a', 'c'), "[a-c]")
	showsSet(t, byteset.Of('a', 'c'), "[ac]")
	showsSet(t, byteset.Or(byteset.Range('0', '9'), byteset.Of('_', 'a', 'b')), "[0-9_a-b]")
	showsSet(t, byteset.Of(0, 255), `[\x00\xff]`)
}

func TestShowOfManyBytes(t *testing.T) {
	showsSet(t, byteset.Full(), ".")
	showsSet(t, byteset.Range(0, 126), `[\x00-~]`)
	showsSet(t, byteset.Range(0, 127), `[\x00-\x7f]`) // 128 bytes
	showsSet(t, byteset.Range(128, 255), `[\x80-\xff]`)
	showsSet(t, byteset.Range(0, 128), `[^\x81-\xff]`) // 129 bytes
	showsSet(t, byteset.Range(127, 255), `[^\x00-~]`)
	showsSet(t, byteset.Not(byteset.Of('\n')), `[^\n]`)
	showsSet(t, byteset.Not(byteset.Of('^', 'a')), `[^\^a]`)
	var even api.Set
	for c := 0; c < 256; c += 2 {
		even = byteset.Or(even, byteset.Of(byte(c)))
	}
	odd := byteset.Not(even)
	texts := func(s api.Set) string {
		var text string
		for _, c := range byteset.List(s) {
			text += modelByte(c, `/]^-"`)
		}
		return text
	}
	showsSet(t, even, "["+texts(even)+"]")
	showsSet(t, odd, "["+texts(odd)+"]")
	showsSet(t, byteset.Or(odd, byteset.Of(254)), "[^"+texts(byteset.Less(even, byteset.Of(254)))+"]")
}

// P4.2: no text of one that Check does not pass.

func TestShowOfInvalidOnes(t *testing.T) {
	for _, r := range []api.Regex{
		nil, {}, {a, a}, {star}, {a, cat}, {a, star, alt}, {{Kind: 7}}, {{Kind: -1}}, {a, {Kind: 7}},
		{{Kind: api.One}}, {a, {Kind: api.Star, Set: a.Set}}, {{Kind: api.None, Set: a.Set}}, stars(401),
	} {
		shows(t, r, "")
	}
	shows(t, stars(400), "a"+strings.Repeat("*", 399))
}

// P4.2: nothing bounds the text but the pieces.

func TestShowOfDeepOnes(t *testing.T) {
	r := api.Regex{a}
	want := "a"
	for range 133 {
		r = append(append(api.Regex{a}, r...), alt, star)
		want = "(a|" + want + ")*"
	}
	shows(t, r, want)
	r, want = slices.Repeat(api.Regex{a}, 200), "a"
	for range 199 {
		r = append(r, cat)
		want = "a(" + want + ")"
	}
	shows(t, r, strings.ReplaceAll(want, "(a)", "a"))
}
