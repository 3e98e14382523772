package escape_test

import (
	"strings"
	"testing"

	"bosket/api"
	"bosket/escape"
)

// P3.3: Class.

func TestClass(t *testing.T) {
	cases := []struct {
		class int
		bytes string
	}{
		{1, " \t\n\r"},
		{2, "0123456789"},
		{3, "abcdefghijklmnopqrstuvwxyzABCDEFGHIJKLMNOPQRSTUVWXYZ_"},
		{4, "!\"#$%&'()*+,-./:;<=>?@[\\]^`{|}~"},
	}
	want := map[byte]int{}
	for _, c := range cases {
		for _, b := range []byte(c.bytes) {
			want[b] = c.class
		}
	}
	if len(want) != 95+3 {
		t.Fatalf("%d bytes are told of", len(want))
	}
	for b := range 256 {
		if got := escape.Class(byte(b)); got != want[byte(b)] {
			t.Errorf("Class(%d): %d, want %d", b, got, want[byte(b)])
		}
	}
}

// P3.3: Name, Check.

// named checks Name and Check.
func named(t *testing.T, s string, want bool) {
	t.Helper()
	if got := escape.Name(s); got != want {
		t.Errorf("Name(%q): %v", s, got)
	}
	err := api.ErrName
	if want {
		err = api.OK
	}
	if got := escape.Check(s); got != err {
		t.Errorf("Check(%q): %d, want %d", s, got, err)
	}
}

func TestNames(t *testing.T) {
	for _, s := range []string{"a", "z", "A", "Z", "_", "__", "a9_Z", "_0", "x1", "E", "number", "If_2"} {
		named(t, s, true)
	}
	for _, s := range []string{
		"", "0", "9a", "0_", " ", " a", "a ", "a b", "a\n", "\na", "a-b", "-a", "a.b", "a'", "@a", "a[", "a`", "a{", "a/", "a:",
		"é", "aé", "a\x00", "\x00", "a\x7f", "\xff", "a\xff", "a\\", `"a"`,
	} {
		named(t, s, false)
	}
}

func TestLengthsOfNames(t *testing.T) {
	for n := range 120 {
		fits := 1 <= n && n <= 40
		named(t, strings.Repeat("a", n), fits)
		named(t, strings.Repeat("_", n), fits)
		if n > 0 {
			named(t, "Z"+strings.Repeat("9", n-1), fits)
			named(t, strings.Repeat("9", n), false)
			named(t, strings.Repeat("a", n)+"!", false)
			named(t, "!"+strings.Repeat("a", n), false)
		}
	}
	named(t, strings.Repeat("a", api.MaxText), false)
	named(t, strings.Repeat("é", 20), false)
}

// Every byte in every place of a name.
func TestEveryByteOfAName(t *testing.T) {
	for b := range 256 {
		class := escape.Class(byte(b))
		for _, length := range []int{1, 2, 3, 39, 40} {
			for at := range length {
				l := []byte(strings.Repeat("a", length))
				l[at] = byte(b)
				named(t, string(l), class == 3 || class == 2 && at > 0)
			}
		}
	}
}

func TestEveryShortName(t *testing.T) {
	parts := []string{"a", "z", "A", "Z", "_", "0", "9", " ", "\n", "@", "`", "[", "{", "/", ":", "\xe9"}
	each(parts, 4, func(s string) { named(t, s, modelName.MatchString(runes(s))) })
}
