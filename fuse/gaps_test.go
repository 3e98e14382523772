package fuse_test

import (
	"slices"
	"strings"
	"testing"

	"bosket/api"
	"bosket/fuse"
)

// gaps writes down which blanks are left, as the texts with them.
func gaps(t *testing.T, d api.DFA, blank int, want string, texts ...string) {
	t.Helper()
	got, err := fuse.Gaps(d, blank, texts)
	if err != api.OK || len(got) != max(len(texts)-1, 0) || fuse.Join(texts, got) != want {
		t.Errorf("%q: %v, error %d, want %q", texts, got, err, want)
	}
}

// The example of the chapter.
func TestTheExample(t *testing.T) {
	d := machine(t, "a", "aa", " ")
	got, err := fuse.Gaps(d, 2, []string{"a", "a"})
	if !slices.Equal(got, []bool{true}) || err != api.OK {
		t.Errorf("%v, error %d", got, err)
	}
}

// P15.2: a blank is left only where the texts are not read back without it.
func TestGaps(t *testing.T) {
	d := machine(t, common...)
	gaps(t, d, 3, "a b= = ==c", "a", "b", "=", "=", "==", "c")
	gaps(t, d, 3, "a=b", "a", "=", "b")
	gaps(t, d, 3, "a b c", "a", "b", "c")
	gaps(t, d, 3, "a1 2b", "a", "1", "2", "b")
	gaps(t, d, 3, "1.5a", "1.5", "a")
	gaps(t, d, 3, "===", "==", "=")
	gaps(t, d, 3, "= ==", "=", "==")
	gaps(t, d, 3, "=====", "==", "==", "=")
	gaps(t, d, 3, "a#b", "a", "#b")
	gaps(t, machine(t, "if", "[a-z]+", " ", "[()]"), 2, "if(x)if y", "if", "(", "x", ")", "if", "y")
	gaps(t, machine(t, "if", "[a-z]+", " ", "[()]"), 2, "if f if", "if", "f", "if")
	gaps(t, machine(t, "-", "->", ">", " "), 3, "->- >-", "->", "-", ">", "-")
}

// P15.2: one text has no gap, and no text neither.
func TestGapsOfFewTexts(t *testing.T) {
	d := machine(t, common...)
	gaps(t, d, 3, "")
	gaps(t, d, 3, "a", "a")
	gaps(t, d, 3, "1.5", "1.5")
	if got, err := fuse.Gaps(d, 3, []string{}); len(got) != 0 || err != api.OK {
		t.Errorf("%v, error %d", got, err)
	}
	d = machine(t, "a", "b") // no blank is needed where there is one text
	gaps(t, d, -1, "a", "a")
	gaps(t, d, 7, "")
}

// P15.2: blanks are removed from the first one on, each without those that were removed before.
func TestGapsInOrder(t *testing.T) {
	d := machine(t, " ", "a", "b", "c", "abc")
	gaps(t, d, 0, "ab c", "a", "b", "c")
	gaps(t, d, 0, "cab ca", "c", "a", "b", "c", "a")
	gaps(t, d, 0, "ab cab c", "a", "b", "c", "a", "b", "c")
	d = machine(t, " ", "a", "aaa") // any two side by side, but not three
	gaps(t, d, 0, "aa", "a", "a")
	gaps(t, d, 0, "aa a", "a", "a", "a")
	gaps(t, d, 0, "aa aa aa a", "a", "a", "a", "a", "a", "a", "a")
	gaps(t, d, 0, "aaaaa aa", "aaa", "a", "a", "a", "a")
}

// P15.2: a blank that is needed at first may not be any more once others are removed. All are tried again then, from the beginning on.
func TestGapsInRounds(t *testing.T) {
	d := machine(t, " ", "x", "xx ")
	gaps(t, d, 0, "xx", "x", "x")
	gaps(t, d, 0, "xxx", "x", "x", "x")
	gaps(t, d, 0, strings.Repeat("x", 9), slices.Repeat([]string{"x"}, 9)...)
	gaps(t, d, 0, strings.Repeat("x", 40), slices.Repeat([]string{"x"}, 40)...)
	d = machine(t, " ", "x", "xx ", "y", "xy")
	gaps(t, d, 0, "x x y", "x", "x", "y")
	gaps(t, d, 0, "x x yx", "x", "x", "y", "x")
	gaps(t, d, 0, "xxyx", "x", "xy", "x")
	gaps(t, d, 0, "yxxx", "y", "x", "x", "x")
}

// P15.2: a round goes on behind a blank that was removed; the positions ahead of it have to wait for the next round.
func TestARoundGoesThroughAllPositions(t *testing.T) {
	d := machine(t, " ", "a", "b", "c", "d", "ab ", "abcd")
	gaps(t, d, 0, "abc", "a", "b", "c")
	gaps(t, d, 0, "a bcd", "a", "b", "c", "d") // the second blank, then the third; the first one would have made "abc d" ahead of it
	gaps(t, d, 0, "da bcd", "d", "a", "b", "c", "d")
	d = machine(t, " ", "a", "b", "c", "d", "ab ", "abcd", "abc ")
	gaps(t, d, 0, "a bcd", "a", "b", "c", "d")
	gaps(t, d, 0, "a bcda", "a", "b", "c", "d", "a")
}

// P15.2: more than 300 texts, whatever they are.
func TestGapsOfTooManyTexts(t *testing.T) {
	d := machine(t, common...)
	for _, l := range [][]string{{"a"}, {"="}, {"a", "="}, {"!"}, {""}, {strings.Repeat("a", 1000)}} {
		for _, count := range []int{301, 302, 1000, 65536} {
			l := slices.Repeat(l, count)[:count]
			if got, err := fuse.Gaps(d, 3, l); len(got) != 0 || err != api.ErrBig {
				t.Errorf("%d of %.5q: %d gaps, error %d", count, l[0], len(got), err)
			}
		}
	}
	gaps(t, d, 3, strings.Repeat("a=", 150), slices.Repeat([]string{"a", "="}, 150)...)
	gaps(t, d, 3, strings.Repeat("a ", 299)+"a", slices.Repeat([]string{"a"}, 300)...)
	gaps(t, d, 3, strings.Repeat("==", 299), slices.Repeat([]string{"=="}, 299)...)
}

func refused(t *testing.T, d api.DFA, blank int, texts ...string) {
	t.Helper()
	if got, err := fuse.Gaps(d, blank, texts); len(got) != 0 || err != api.ErrToken {
		t.Errorf("%q: %v, error %d", texts, got, err)
	}
}

// P15.2: texts that are no tokens, or tokens of the rule for blanks.
func TestGapsOfWhatIsNoToken(t *testing.T) {
	d := machine(t, common...)
	refused(t, d, 3, "")
	refused(t, d, 3, "!")
	refused(t, d, 3, "a", "!", "b")
	refused(t, d, 3, "a", "", "b")
	refused(t, d, 3, "", "a")
	refused(t, d, 3, "a", "")
	refused(t, d, 3, "a=", "b")
	refused(t, d, 3, "a", "b c")
	refused(t, d, 3, "1.")
	refused(t, d, 3, "1", ".", "5")
	refused(t, d, 3, " ")
	refused(t, d, 3, "a", " ", "b")
	refused(t, d, 3, "a", "\n")
	refused(t, d, 3, slices.Repeat([]string{"!"}, 300)...)
	refused(t, d, 0, "a") // letters as blanks
	refused(t, api.DFA{Next: rows{{-1}}, Mark: []int{0}}, 1, "")
}

// P15.2: texts that are not read back with all blanks, though they might be without some.
func TestGapsWhereBlanksDoHarm(t *testing.T) {
	d := machine(t, common...)
	refused(t, d, 3, "#a", "b")
	refused(t, d, 3, "a", "#a", "#b")
	gaps(t, d, 3, "a#a", "a", "#a")
	d = machine(t, "a", "b", " ", "a b")
	refused(t, d, 2, "a", "b")
	refused(t, d, 2, "b", "a", "b")
	gaps(t, d, 2, "ba", "b", "a")
	d = machine(t, "a", "b") // no rule for blanks
	refused(t, d, -1, "a", "b")
	refused(t, d, 2, "a", "b")
	refused(t, d, 0, "b", "b")
	d = machine(t, "a", "b", " ") // another one than that of blanks
	for _, blank := range append(outside(3), 0, 1) {
		refused(t, d, blank, "a", "b")
	}
	gaps(t, d, 2, "ab", "a", "b")
	d = machine(t, "a", "b", "  +") // only two blanks are of a rule
	refused(t, d, 2, "a", "b")
}

// P15.2: texts may have blanks of their own, those of other rules too.
func TestGapsOfTextsWithBlanks(t *testing.T) {
	d := machine(t, " ", "'[^']*'", "[a-z]+", "#[^\\n]*\\n", "[a-z]+ -")
	gaps(t, d, 0, "'a b'' 'c", "'a b'", "' '", "c")
	gaps(t, d, 0, "a# b\na a", "a", "# b\n", "a", "a")
	gaps(t, d, 0, "a -b a -a -", "a -", "b", "a -", "a -")
}

// P15.2: all blanks count for the length, those that are removed later too.
func TestGapsAtTheBound(t *testing.T) {
	d := machine(t, "a+", "b+", " ")
	a := strings.Repeat("a", 65536)
	gaps(t, d, 2, a, a)
	refused(t, d, 2, a+"a")
	gaps(t, d, 2, a[2:]+"b", a[2:], "b")
	refused(t, d, 2, a[1:], "b")
	gaps(t, d, 2, a[4:]+"ba", a[4:], "b", "a")
	refused(t, d, 2, a[3:], "b", "a")
	gaps(t, d, 2, "a "+a[2:], "a", a[2:])
	refused(t, d, 2, "a", a[1:])
	refused(t, d, 2, slices.Repeat([]string{a}, 300)...)
}

// P15.2: as many texts as there may be, as long as they may be, and with as many rounds.
func TestGapsOfLongTexts(t *testing.T) {
	d := machine(t, "[a-z]+", "[()]", " ")
	long := slices.Repeat([]string{strings.Repeat("a", 217)}, 300)
	gaps(t, d, 2, strings.Join(long, " "), long...)
	for i := range long {
		if i%2 == 1 {
			long[i] = "("
		}
	}
	gaps(t, d, 2, strings.Join(long, ""), long...)
	d = machine(t, " ", "x", "xx ")
	short := slices.Repeat([]string{"x"}, 300)
	gaps(t, d, 0, strings.Join(short, ""), short...)
}

// anew tells the gaps as if each blank that is removed began a new round at once.
func anew(d api.DFA, blank int, texts []string) []bool {
	gaps := slices.Repeat([]bool{true}, max(len(texts)-1, 0))
	for i := 0; i < len(gaps); i++ {
		without := slices.Concat(gaps[:i], []bool{false}, gaps[i+1:])
		if gaps[i] && split(d, blank, joined(texts, without), texts) {
			gaps, i = without, -1
		}
	}
	return gaps
}

// needed fails unless texts are read back with the blanks, and not without any one of them.
func needed(t *testing.T, d api.DFA, blank int, texts []string, gaps []bool) {
	t.Helper()
	if s := fuse.Join(texts, gaps); !fuse.Splits(d, blank, s, texts) {
		t.Fatalf("%q is not read back from %q", texts, s)
	}
	for i, set := range gaps {
		fewer := slices.Clone(gaps)
		fewer[i] = false
		if s := fuse.Join(texts, fewer); set && fuse.Splits(d, blank, s, texts) {
			t.Fatalf("%q is read back from %q, without the blank %d", texts, s, i)
		}
	}
}

// P15.2, P15.4: many rules and lists of their texts, held against the model. Some of them need more rounds than one, and some are told apart from what rounds that begin anew at once would leave.
func TestGapsOfManyRules(t *testing.T) {
	x := source(7)
	var refused, blanks, rounds, others int
	for i := range 2000 {
		words, length := x.strings("ab", 3+x.below(6)), 8
		if i%2 == 0 {
			words, length = []string{"a", "b", "c", "d"}, 6
		}
		d := machine(t, slices.Concat([]string{" "}, words, x.tails(words))...)
		for range 50 {
			l := x.words(words, length)
			want, count, wantErr := gapped(d, 0, l)
			got, err := fuse.Gaps(d, 0, l)
			if !slices.Equal(got, want) || err != wantErr {
				t.Fatalf("%q, %q: %v, error %d, want %v, error %d", words, l, got, err, want, wantErr)
			}
			if err != api.OK {
				refused++
				continue
			}
			needed(t, d, 0, l, got)
			if slices.Contains(got, true) {
				blanks++
			}
			if count > 1 {
				rounds++
			}
			if !slices.Equal(anew(d, 0, l), want) {
				others++
			}
		}
	}
	if min(refused, blanks) < 1000 || min(rounds, others) < 10 {
		t.Errorf("%d were refused, %d had blanks, %d more rounds than one, %d other gaps with rounds that begin anew", refused, blanks, rounds, others)
	}
}

// strings returns so many different texts of the letters, with blanks in some of them, but ahead of none.
func (x *source) strings(letters string, count int) []string {
	var l []string
	for len(l) < count {
		if s := string(letters[x.below(len(letters))]) + x.text(letters+letters+" ", 3); !slices.Contains(l, s) {
			l = append(l, s)
		}
	}
	return l
}

// tails returns some texts that are none of these, but made of two or more of them; a blank is behind every other one.
func (x *source) tails(words []string) []string {
	var l []string
	for range x.below(12) {
		s := words[x.below(len(words))] + words[x.below(len(words))] + strings.Join(x.words(words, 2), "")
		if x.below(2) == 0 {
			s += " "
		}
		if !slices.Contains(l, s) && !slices.Contains(words, s) {
			l = append(l, s)
		}
	}
	return l
}
