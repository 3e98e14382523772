package escape_test

import (
	"fmt"
	"strings"
	"testing"

	"bosket/escape"
)

// reads checks a Read.
func reads(t *testing.T, s string, want read) {
	t.Helper()
	c, n, ok := escape.Read(s)
	if got := (read{c, n, ok}); got != want {
		t.Errorf("Read(%q): %v, want %v", s, got, want)
	}
}

// P3.1: Byte.

func TestByte(t *testing.T) {
	cases := []struct {
		c      byte
		others string
		want   string
	}{
		{10, "", `\n`},
		{9, "", `\t`},
		{13, "", `\r`},
		{0, "", `\x00`},
		{8, "", `\x08`},
		{11, "", `\x0b`},
		{12, "", `\x0c`},
		{14, "", `\x0e`},
		{31, "", `\x1f`},
		{32, "", ` `},
		{33, "", `!`},
		{'/', "", `/`},
		{'"', "", `"`},
		{'0', "", `0`},
		{'A', "", `A`},
		{'n', "", `n`},
		{'x', "", `x`},
		{'[', "", `[`},
		{'\\', "", `\\`},
		{']', "", `]`},
		{126, "", `~`},
		{127, "", `\x7f`},
		{128, "", `\x80`},
		{0xab, "", `\xab`},
		{255, "", `\xff`},
	}
	for _, c := range cases {
		if got := escape.Byte(c.c, c.others); got != c.want {
			t.Errorf("Byte(%d, %q): %q, want %q", c.c, c.others, got, c.want)
		}
	}
}

func TestByteAmongOthers(t *testing.T) {
	cases := []struct {
		c      byte
		others string
		want   string
	}{
		{'"', `"`, `\"`},
		{'"', `/`, `"`},
		{'/', `/]^-"`, `\/`},
		{'-', `/]^-"`, `\-`},
		{'"', `/]^-"`, `\"`},
		{'[', `/]^-"`, `[`},
		{' ', " ", `\ `},
		{'~', "~", `\~`},
		{'a', "a", `\a`},
		{'a', "A", `a`},
		{'7', "7", `\7`},
		{'n', "n", `\n`},
		{'x', "x", `\x`},
		{'\\', `\`, `\\`},
		{'\\', `"`, `\\`},
		{'"', `""`, `\"`},
		{'"', "\x00\xff\"", `\"`},
		// these are written the same way whether they are among others or not
		{10, "\n", `\n`},
		{9, "\t", `\t`},
		{13, "\r", `\r`},
		{0, "\x00", `\x00`},
		{31, "\x1f", `\x1f`},
		{127, "\x7f", `\x7f`},
		{0xe9, "\xe9", `\xe9`},
		{0xe9, "é", `\xe9`},
		{255, "\xff", `\xff`},
	}
	for _, c := range cases {
		if got := escape.Byte(c.c, c.others); got != c.want {
			t.Errorf("Byte(%d, %q): %q, want %q", c.c, c.others, got, c.want)
		}
	}
}

// wantByte tells the rule once more.
func wantByte(c byte, others string) string {
	if i := strings.IndexByte("\n\t\r", c); i >= 0 {
		return `\` + "ntr"[i:i+1]
	}
	if c < 32 || c > 126 {
		return fmt.Sprintf(`\x%02x`, c)
	}
	if strings.Contains(others+`\`, one(c)) {
		return `\` + one(c)
	}
	return one(c)
}

func TestEveryByte(t *testing.T) {
	lists := []string{"", `"`, `/()[]|*+?."~`, `/]^-"`, `\`, "abc", "0189", " _", every(), strings.Repeat("q", 1000) + "z"}
	for c := range 256 {
		lists = append(lists, one(byte(c)))
	}
	for c := range 256 {
		for _, others := range lists {
			if got, want := escape.Byte(byte(c), others), wantByte(byte(c), others); got != want {
				t.Errorf("Byte(%d, %q): %q, want %q", c, others, got, want)
			}
		}
	}
}

// P3.1: Read.

func TestRead(t *testing.T) {
	cases := []struct {
		s    string
		want read
	}{
		{`a`, read{'a', 1, true}},
		{`ab\n`, read{'a', 1, true}},
		{`"`, read{'"', 1, true}},
		{"\n", read{10, 1, true}},
		{"\r\n", read{13, 1, true}},
		{"\x00", read{0, 1, true}},
		{"\x1f", read{31, 1, true}},
		{"\x7f", read{127, 1, true}},
		{"\xff", read{255, 1, true}},
		{"é", read{0xc3, 1, true}},
		{`\n`, read{10, 2, true}},
		{`\t`, read{9, 2, true}},
		{`\r`, read{13, 2, true}},
		{`\nn`, read{10, 2, true}},
		{`\\`, read{'\\', 2, true}},
		{`\\n`, read{'\\', 2, true}},
		{`\"`, read{'"', 2, true}},
		{`\ `, read{' ', 2, true}},
		{`\_`, read{'_', 2, true}},
		{`\~x`, read{'~', 2, true}},
		{`\x00`, read{0, 4, true}},
		{`\x0a`, read{10, 4, true}},
		{`\x41b`, read{'A', 4, true}},
		{`\x41ff`, read{'A', 4, true}},
		{`\x5c`, read{'\\', 4, true}},
		{`\x99`, read{0x99, 4, true}},
		{`\xaf`, read{0xaf, 4, true}},
		{`\xfa`, read{0xfa, 4, true}},
		{`\xff`, read{255, 4, true}},
	}
	for _, c := range cases {
		reads(t, c.s, c.want)
	}
}

func TestReadOfNothingThatCanBeRead(t *testing.T) {
	for _, s := range []string{
		``, `\`,
		`\x`, `\x0`, `\xf`, `\xg0`, `\x0g`, `\x 0`, `\x0 `, `\x\41`, `\x4\1`, `\x/0`, `\x0:`, "\\x0`", "\\x`0",
		`\xA0`, `\x0A`, `\xFF`, `\xaF`, `\xFa`, `\X41`,
		`\0`, `\00`, `\9`, `\1a`,
		`\a`, `\b`, `\f`, `\m`, `\o`, `\q`, `\s`, `\u`, `\v`, `\y`, `\z`,
		`\A`, `\N`, `\R`, `\T`, `\Z`,
		"\\\n", "\\\t", "\\\r", "\\\x00", "\\\x1f", "\\\x7f", "\\\x80", "\\\xff", "\\é",
	} {
		reads(t, s, read{})
	}
}

// Every byte, alone and behind a backslash, with anything behind it.
func TestReadOfEveryByte(t *testing.T) {
	for c := range 256 {
		for _, rest := range []string{"", "a", `\`, "\n", "0x", "\xff"} {
			s := `\` + one(byte(c)) + rest
			reads(t, s, wantRead(s))
			if c != '\\' {
				reads(t, one(byte(c))+rest, read{byte(c), 1, true})
			}
			if strings.Contains(signs, one(byte(c))) {
				reads(t, s, read{byte(c), 2, true})
			}
		}
	}
}

func TestReadOfEveryPairOfDigits(t *testing.T) {
	const digits = "0123456789abcdef"
	for a := range 256 {
		for b := range 256 {
			s := `\x` + one(byte(a)) + one(byte(b))
			want := read{}
			high, low := strings.Index(digits, one(byte(a))), strings.Index(digits, one(byte(b)))
			if high >= 0 && low >= 0 {
				want = read{byte(16*high + low), 4, true}
			}
			reads(t, s, want)
			reads(t, s+"0", want)
		}
	}
}

func TestReadOfEveryShortText(t *testing.T) {
	parts := []string{`\`, "n", "t", "r", "x", "0", "9", "a", "f", "F", "g", `"`, "_", " ", "\n", "\x1f", "~", "\x7f", "\xe9"}
	each(parts, 4, func(s string) { reads(t, s, wantRead(s)) })
}

// Read reads what Byte writes, unless others holds letters or digits, for which a backslash has another meaning.
func TestReadOfByte(t *testing.T) {
	for _, others := range []string{"", `"`, `/()[]|*+?."~`, `/]^-"`, signs} {
		for c := range 256 {
			s := escape.Byte(byte(c), others)
			for _, rest := range []string{"", "0", "ff", `\`, "\n"} {
				reads(t, s+rest, read{byte(c), len(s), true})
			}
		}
	}
}

// The example.
func TestExampleOfByte(t *testing.T) {
	if got := escape.Byte('\n', ""); got != `\n` {
		t.Errorf("Byte of a line feed: %q", got)
	}
}
