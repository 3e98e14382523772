package lanes_test

import (
	"math"
	"slices"
	"strings"
	"testing"

	"bosket/api"
	"bosket/lanes"
)

// P14.1: the kind of a rule, whatever number it is.
func TestKind(t *testing.T) {
	for rule, want := range kinds() {
		if kind := lanes.Kind(kinds(), api.Token{Rule: rule, Text: "a", At: 7}); kind != want {
			t.Errorf("rule %d: %d, want %d", rule, kind, want)
		}
	}
	for rule, want := range []int{api.Comment, api.Main} {
		if kind := lanes.Kind([]int{api.Comment, api.Main}, api.Token{Rule: rule}); kind != want {
			t.Errorf("rule %d of two: %d, want %d", rule, kind, want)
		}
	}
}

// P14.1: Skip, if there is no such rule.
func TestKindOfNoRule(t *testing.T) {
	for _, rule := range outside() {
		for _, l := range [][]int{kinds(), nil, {}, kinds()[:0]} {
			if kind := lanes.Kind(l, api.Token{Rule: rule, Text: "a"}); kind != api.Skip {
				t.Errorf("rule %d of %d: %d", rule, len(l), kind)
			}
		}
	}
	for rule := range 3 { // rules that stand only in spare capacity
		if kind := lanes.Kind([]int{0, 0, 0}[:rule], api.Token{Rule: rule}); kind != api.Skip {
			t.Errorf("rule %d of %d: %d", rule, rule, kind)
		}
	}
	if api.Main != 0 || api.Skip != 1 || api.Comment != 2 {
		t.Error(api.Main, api.Skip, api.Comment)
	}
}

func of(t *testing.T, l []api.Token, kind int, want ...api.Token) {
	t.Helper()
	if got := lanes.Of(kinds(), l, kind); !slices.Equal(got, want) {
		t.Errorf("%v, kind %d: %v, want %v", l, kind, got, want)
	}
}

// P14.1: tokens of a kind, by what Kind tells: those of no rule are of kind Skip, those of a number that is no kind are of just that.
func TestOf(t *testing.T) {
	var l []api.Token
	for i, rule := range []int{9, 2, 1, 0, -1, 3, 7, 8, 4, 0, 10, 2} {
		l = append(l, api.Token{Rule: rule, Text: strings.Repeat("x", i), At: 100 - i})
	}
	of(t, l, api.Main, l[0], l[3], l[9])
	of(t, l, api.Comment, l[1], l[6], l[11])
	of(t, l, api.Skip, l[2], l[4], l[7], l[10])
	of(t, l, 3, l[5])
	of(t, l, -1, l[8])
	of(t, l, 4)
	of(t, l, math.MaxInt)
	of(t, nil, api.Main)
	of(t, l[:1], api.Skip)
	if got := lanes.Of(nil, l, api.Skip); !slices.Equal(got, l) {
		t.Errorf("no rules: %v", got)
	}
	if got := lanes.Of(nil, l, api.Main); len(got) != 0 {
		t.Errorf("no rules: %v", got)
	}
}

// P14.1: each token of a list is of one kind, which Kind tells, and Of keeps the order.
func TestOfEachKind(t *testing.T) {
	for _, l := range samples() {
		var all []api.Token
		for _, kind := range []int{api.Main, api.Skip, api.Comment, 3, -1, math.MaxInt, math.MinInt, 12} {
			var want []api.Token
			for _, token := range l {
				if lanes.Kind(kinds(), token) == kind {
					want = append(want, token)
				}
			}
			of(t, l, kind, want...)
			all = append(all, want...)
		}
		if len(all) != len(l) {
			t.Errorf("%v: %d are of the kinds", l, len(all))
		}
	}
}

// P14.1: byte 10, and no other one.
func TestBreaks(t *testing.T) {
	for c := range 256 {
		one := string([]byte{byte(c)})
		for _, s := range []string{one, one + "ab", "ab" + one, "\xff" + one + "\x00"} {
			if lanes.Breaks(s) != (c == 10) {
				t.Errorf("%q: %v", s, lanes.Breaks(s))
			}
		}
	}
	long := strings.Repeat("a", 70000)
	for s, want := range map[string]bool{"": false, "\n": true, "\n\n": true, "a\r\nb": true, "\r": false, "\u2028\u2029\u0085": false, "\u010a\u0a0a": false, "\xc3\n": true, "\\n": false, long: false, long + "\n": true, "\n" + long: true} {
		if lanes.Breaks(s) != want {
			t.Errorf("%.20q: %v", s, !want)
		}
	}
}

// P14.1: the texts and the rules of tokens, as many as there are tokens.
func TestTextsAndRules(t *testing.T) {
	for _, l := range append(samples(), []api.Token{{}}, []api.Token{{}, {}}, []api.Token{{Rule: math.MinInt, Text: "\x00\xff", At: 3}, {Rule: math.MaxInt, Text: "", At: -3}, {Rule: 2, Text: "é"}}) {
		texts, rules := lanes.Texts(l), lanes.Rules(l)
		if len(texts) != len(l) || len(rules) != len(l) {
			t.Errorf("%v: %q, %v", l, texts, rules)
			continue
		}
		for i, token := range l {
			if texts[i] != token.Text || rules[i] != token.Rule {
				t.Errorf("%v: %q, %v", l, texts, rules)
			}
		}
	}
	l := []api.Token{{Rule: 4, Text: "b", At: 9}, {Rule: -1, Text: "", At: 2}, {Rule: 4, Text: "a", At: 0}}
	if got := lanes.Texts(l); !slices.Equal(got, []string{"b", "", "a"}) {
		t.Errorf("%q", got)
	}
	if got := lanes.Rules(l); !slices.Equal(got, []int{4, -1, 4}) {
		t.Errorf("%v", got)
	}
}
