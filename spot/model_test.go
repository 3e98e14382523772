package spot_test

import (
	"math"
	"strings"

	"bosket/spot"
)

// letters are those of the texts that are tried: new lines, blanks, bytes that are the first, a further or no byte of a rune, and others that are told apart from new lines and blanks easily or not.
const letters = "\n a\xc3\xa9\xff"

// texts returns all texts of the letters, up to a length, the shortest first.
func texts(letters string, length int) []string {
	all := []string{""}
	for i := 0; len(all[i]) < length; i++ {
		for _, c := range []byte(letters) {
			all = append(all, all[i]+string([]byte{c}))
		}
	}
	return all
}

// every returns a text with all bytes.
func every() string {
	var b strings.Builder
	for c := range 256 {
		b.WriteByte(byte(c))
	}
	return b.String()
}

// samples are texts of all kinds.
func samples() []string {
	return []string{
		"", "a", "a\n", "\n", "\n\n", "one\n  two\n", "a\nbc", "\r\n\r\na\rb", "\u2028\u2029\u0085\n\v\f", "é\nüü\n€uro\n\U0001f600\n", "\xe2\x82\n\x82\xac", "\xf0\x9f\x98\n\x80\n\xff\n\xfe\n\xc3",
		"\ufeff\n\ufffd\n\ufffd", "\x8a\n\xc2\x8a\n\x0b\x1a\x4a\xca\n", every(), every() + every(), "   ", "   \n   ", "\n   ", "\t  ", "  \t  x", strings.Repeat("a", 300) + "\n" + strings.Repeat("b", 299), strings.Repeat("\n", 400),
	}
}

// outside returns numbers that are far off those from 0 to a length.
func outside(length int) []int {
	return []int{-1, -2, -length - 1, math.MinInt, math.MinInt + 1, -1 << 31, -1 << 32, length + 1, length + 2, 2*length + 2, math.MaxInt, math.MaxInt - 1, 1 << 31, 1 << 32}
}

// walk returns the positions of all indices of a text, told byte by byte.
func walk(s string) []spot.Spot {
	p := spot.Spot{Line: 1, Col: 1}
	l := []spot.Spot{p}
	for i := range len(s) {
		p.Col++
		if s[i] == 10 {
			p = spot.Spot{Line: p.Line + 1, Col: 1}
		}
		l = append(l, p)
	}
	return l
}

// A source tells numbers without a plain rule, always the same ones.
type source uint64

func (x *source) next() uint64 {
	*x = *x*6364136223846793005 + 1442695040888963407
	return uint64(*x)
}

func (x *source) below(n int) int { return int(x.next()>>33) % n }

// text returns a text of the letters with up to so many bytes.
func (x *source) text(letters string, most int) string {
	b := make([]byte, x.below(most+1))
	for i := range b {
		b[i] = letters[x.below(len(letters))]
	}
	return string(b)
}
