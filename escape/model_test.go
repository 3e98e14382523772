package escape_test

import (
	"fmt"
	"regexp"
	"strconv"
)

// signs are the bytes that stand for themselves behind a backslash.
const signs = " !\"#$%&'()*+,-./:;<=>?@[\\]^_`{|}~"

// quotes are the bytes for which Quote and Unquote are told.
const quotes = " !\"#$%&'()*+,-./:;<=>?@[]^_`{|}~"

// The models match runes: each stands for one byte.

const modelEscape = `\\[ntr]|\\x[0-9a-f]{2}|\\[ -/:-@\[-\x60{-~]`

var modelRead = regexp.MustCompile(`^(?s:[^\\]|` + modelEscape + `)`)

var modelName = regexp.MustCompile(`^[A-Za-z_][A-Za-z0-9_]{0,39}\z`)

// modelUnquote matches a quoted string at the beginning of a text.
func modelUnquote(q byte) *regexp.Regexp {
	quote := fmt.Sprintf(`\x{%02x}`, q)
	return regexp.MustCompile(`^` + quote + `((?:[^\\\n` + quote + `]|` + modelEscape + `)*)` + quote)
}

// runes returns a rune for each byte of a text.
func runes(s string) string {
	l := make([]rune, len(s))
	for i := range len(s) {
		l[i] = rune(s[i])
	}
	return string(l)
}

// bytes returns a byte for each rune of a text.
func bytes(s string) string {
	var l []byte
	for _, r := range s {
		l = append(l, byte(r))
	}
	return string(l)
}

// modelValue returns the byte that a text of one byte stands for.
func modelValue(text string) byte {
	switch {
	case text == `\n`:
		return 10
	case text == `\t`:
		return 9
	case text == `\r`:
		return 13
	case len(text) == 4:
		n, err := strconv.ParseUint(text[2:], 16, 8)
		if err != nil {
			panic(err)
		}
		return byte(n)
	}
	return text[len(text)-1]
}

// read is what Read returns, and unquoted what Unquote returns.
type (
	read struct {
		c  byte
		n  int
		ok bool
	}
	unquoted struct {
		s  string
		n  int
		ok bool
	}
)

// wantRead returns what Read has to return.
func wantRead(s string) read {
	text := bytes(modelRead.FindString(runes(s)))
	if text == "" {
		return read{}
	}
	return read{modelValue(text), len(text), true}
}

// wantUnquote returns what Unquote has to return, by the model for its q.
func wantUnquote(model *regexp.Regexp, s string) unquoted {
	found := model.FindStringSubmatch(runes(s))
	if found == nil {
		return unquoted{}
	}
	inner := bytes(found[1])
	var l []byte
	for rest := inner; rest != ""; {
		r := wantRead(rest)
		l = append(l, r.c)
		rest = rest[r.n:]
	}
	return unquoted{string(l), len(inner) + 2, true}
}

// each calls a function with all texts of at most so many of the parts.
func each(parts []string, most int, call func(s string)) {
	var grow func(s string, left int)
	grow = func(s string, left int) {
		call(s)
		if left == 0 {
			return
		}
		for _, p := range parts {
			grow(s+p, left-1)
		}
	}
	grow("", most)
}

// one returns the text of one byte.
func one(c byte) string { return string([]byte{c}) }

// every returns a text of all bytes in order.
func every() string {
	var l []byte
	for c := range 256 {
		l = append(l, byte(c))
	}
	return string(l)
}
