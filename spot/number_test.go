package spot_test

import (
	"fmt"
	"math"
	"math/big"
	"strings"
	"testing"

	"bosket/spot"
)

// numbers are those whose digits are tried: all small ones, those around powers of 2 and 10, the greatest and the least ones, and some more.
func numbers() []int {
	l := []int{math.MaxInt, math.MaxInt - 1, math.MinInt, math.MinInt + 1}
	for n := -1200; n <= 1200; n++ {
		l = append(l, n)
	}
	for i := range 63 {
		l = append(l, 1<<i-1, 1<<i, 1<<i+1, -1<<i-1, -1<<i, -1<<i+1)
	}
	for n := 1; n <= math.MaxInt/10; n *= 10 {
		l = append(l, n-1, n, n+1, 9*n, -n+1, -n, -n-1, -9*n)
	}
	x := source(2)
	for range 2000 {
		n := int(x.next())
		l = append(l, n, n>>(x.below(64)))
	}
	return l
}

// P13.2: Digits are decimal, without leading zeros, with - ahead of those of negative numbers, and Number reads them.
func TestDigits(t *testing.T) {
	for n, want := range map[int]string{0: "0", 7: "7", -7: "-7", 10: "10", 100: "100", -120: "-120", math.MaxInt: "9223372036854775807", math.MinInt: "-9223372036854775808"} {
		if s := spot.Digits(n); s != want {
			t.Errorf("Digits(%d): %q", n, s)
		}
	}
	for _, n := range numbers() {
		s := spot.Digits(n)
		if s != fmt.Sprint(n) {
			t.Errorf("Digits(%d): %q", n, s)
		}
		if back, ok := spot.Number(s); back != n || !ok {
			t.Errorf("Number(%q): %d, %v", s, back, ok)
		}
	}
}

// refuses holds that a text is the Digits of no number.
func refuses(t *testing.T, s string) {
	t.Helper()
	if n, ok := spot.Number(s); n != 0 || ok {
		t.Errorf("Number(%.60q): %d, %v", s, n, ok)
	}
}

// P13.2: Number refuses every other text, and returns 0 beside false.
func TestNumberRefuses(t *testing.T) {
	for _, s := range []string{
		"", "-", "+", "+1", "+0", "-0", "00", "01", "007", "-01", "-00", "--1", "1-", "1-1", "- 1", " 1", "1 ", "1\n", "\n1", "1_000", "_1", "1_", "0x1", "0b1", "0o7", "1e3", "1.0", "1.", ".1", "1,000", "a", "1a", "a1",
		"\u0661", "\uff11", "\u2212" + "1", "\x00", "1\x00", "\xff", "1\xff", "inf", "nan", "/", ":", "1/", "1:",
		"9223372036854775808", "-9223372036854775809", "9223372036854775810", "18446744073709551615", "18446744073709551616", "18446744073709551617", "-18446744073709551615", "99999999999999999999", "-99999999999999999999",
		"340282366920938463463374607431768211457", "09223372036854775807", "-09223372036854775808", "+9223372036854775807",
		strings.Repeat("0", 70000) + "1", strings.Repeat("0", 70000), strings.Repeat("9", 70000), "-" + strings.Repeat("1", 70000),
	} {
		refuses(t, s)
	}
	for _, n := range numbers() {
		s := fmt.Sprint(n)
		for _, other := range []string{"0" + s, "+" + s, "-0" + s, s + " ", " " + s, s + "-", s + ".", "--" + s} {
			refuses(t, other)
		}
		if n < 0 {
			refuses(t, "-0"+s[1:])
		}
	}
}

// P13.2: numbers that are too great or too small by little or much.
func TestNumberBeyondTheGreatest(t *testing.T) {
	great := new(big.Int).SetUint64(math.MaxInt + 1)
	for i := range int64(1000) {
		refuses(t, new(big.Int).Add(great, big.NewInt(i)).String())
		refuses(t, new(big.Int).Sub(new(big.Int).Neg(great), big.NewInt(i+1)).String())
		refuses(t, new(big.Int).Mul(great, big.NewInt(2*i+2)).String())
		refuses(t, new(big.Int).Add(new(big.Int).Mul(great, big.NewInt(2*i+2)), big.NewInt(5)).String())
	}
}

// P13.2: all short texts of digits and what may stand beside them: just those that are the digits of a number are read.
func TestNumberOfAllShortTexts(t *testing.T) {
	want := map[string]int{}
	for n := -9999; n < 100000; n++ {
		want[fmt.Sprint(n)] = n
	}
	for _, s := range texts("0129-+_ .x\n", 5) {
		if n, ok := want[s]; !ok {
			refuses(t, s)
		} else if got, ok := spot.Number(s); got != n || !ok {
			t.Errorf("Number(%q): %d, %v", s, got, ok)
		}
	}
}

// P13.2: each byte by itself, at each place of a number.
func TestNumberOfEachByte(t *testing.T) {
	for c := range 256 {
		one := string([]byte{byte(c)})
		digit := '0' <= c && c <= '9'
		if n, ok := spot.Number(one); ok != digit || ok && n != c-'0' {
			t.Errorf("%q: %d, %v", one, n, ok)
		}
		if n, ok := spot.Number("1" + one + "1"); ok != digit || ok && n != 101+10*(c-'0') {
			t.Errorf("1%q1: %d, %v", one, n, ok)
		}
		if n, ok := spot.Number(one + "5"); ok != (digit && c != '0' || c == '-') || ok && c != '-' && n != 10*(c-'0')+5 {
			t.Errorf("%q5: %d, %v", one, n, ok)
		}
	}
}

// P13.2: Show returns the line, a colon and the column, also for positions that no text has.
func TestShow(t *testing.T) {
	for p, want := range map[spot.Spot]string{
		{}: "0:0", {1, 1}: "1:1", {2, 12}: "2:12", {120, 7}: "120:7", {-3, -40}: "-3:-40", {math.MaxInt, math.MinInt}: "9223372036854775807:-9223372036854775808", {10, 0}: "10:0",
	} {
		if s := spot.Show(p); s != want {
			t.Errorf("Show(%v): %q, want %q", p, s, want)
		}
	}
	x := source(3)
	for range 1000 {
		p := spot.Spot{Line: int(x.next()) >> x.below(64), Col: int(x.next()) >> x.below(64)}
		if s := spot.Show(p); s != fmt.Sprintf("%d:%d", p.Line, p.Col) {
			t.Errorf("Show(%v): %q", p, s)
		}
	}
}
