package rex_test

import (
	"math"
	"slices"
	"strings"
	"testing"

	"bosket/api"
	"bosket/byteset"
	"bosket/rex"
)

// same checks an expression.
func same(t *testing.T, what string, got, want api.Regex) {
	t.Helper()
	if !slices.Equal(got, want) {
		t.Errorf("%s: %s, want %s", what, brief(got), brief(want))
	}
}

// checks checks a Check.
func checks(t *testing.T, what string, r api.Regex, want api.Errno) {
	t.Helper()
	if got := rex.Check(r); got != want {
		t.Errorf("Check of %s: %d, want %d", what, got, want)
	}
}

// P4.1: Takes.

func TestTakes(t *testing.T) {
	for kind, want := range []int{api.None: 0, api.One: 0, api.Cat: 2, api.Alt: 2, api.Star: 1, api.Plus: 1, api.Opt: 1} {
		if got := rex.Takes(kind); got != want {
			t.Errorf("Takes(%d): %d, want %d", kind, got, want)
		}
	}
}

func TestTakesOfKindsThatDoNotExist(t *testing.T) {
	for _, kind := range []int{-1, -2, 7, 8, 256, 260, math.MaxInt, math.MinInt, 1 << 32, 1<<32 + api.Star} {
		if got := rex.Takes(kind); got != -1 {
			t.Errorf("Takes(%d): %d, want -1", kind, got)
		}
	}
}

// P4.1: Check.

func TestCheckOfValidOnes(t *testing.T) {
	for _, r := range valid() {
		checks(t, brief(r), r, api.OK)
	}
}

func TestCheckOfKindsThatDoNotExist(t *testing.T) {
	for _, kind := range []int{-1, 7, 256, math.MaxInt, math.MinInt} {
		odd := api.Piece{Kind: kind}
		checks(t, "a kind that does not exist", api.Regex{odd}, api.ErrRegex)
		checks(t, "such a kind behind one expression", api.Regex{a, odd}, api.ErrRegex)
		checks(t, "such a kind behind two expressions", api.Regex{a, a, odd}, api.ErrRegex)
		checks(t, "such a kind ahead of a Star", api.Regex{odd, star}, api.ErrRegex)
	}
}

func TestCheckOfOperandsThatAreMissing(t *testing.T) {
	for _, kind := range []int{api.Star, api.Plus, api.Opt} {
		checks(t, "a repetition of nothing", api.Regex{{Kind: kind}}, api.ErrRegex)
		checks(t, "a repetition of nothing ahead of a One", api.Regex{{Kind: kind}, a}, api.ErrRegex)
	}
	for _, kind := range []int{api.Cat, api.Alt} {
		checks(t, "no operand", api.Regex{{Kind: kind}}, api.ErrRegex)
		checks(t, "no operand, and two behind", api.Regex{{Kind: kind}, a, a}, api.ErrRegex)
		checks(t, "one operand", api.Regex{a, {Kind: kind}}, api.ErrRegex)
		checks(t, "one operand, and one behind", api.Regex{a, {Kind: kind}, a}, api.ErrRegex)
		checks(t, "one operand that is taken twice", api.Regex{a, star, {Kind: kind}}, api.ErrRegex)
		checks(t, "three pieces that take two", api.Regex{a, a, {Kind: kind}, {Kind: kind}}, api.ErrRegex)
	}
}

func TestCheckOfExpressionsThatAreLeft(t *testing.T) {
	checks(t, "no piece", nil, api.ErrRegex)
	checks(t, "no piece", api.Regex{}, api.ErrRegex)
	checks(t, "two", api.Regex{a, a}, api.ErrRegex)
	checks(t, "two None", api.Regex{none, none}, api.ErrRegex)
	checks(t, "two, one of them repeated", api.Regex{a, a, star}, api.ErrRegex)
	checks(t, "three of which two are joined", api.Regex{a, a, a, cat}, api.ErrRegex)
}

func TestCheckOfSets(t *testing.T) {
	empty := api.Piece{Kind: api.One}
	checks(t, "a One with an empty Set", api.Regex{empty}, api.ErrRegex)
	checks(t, "a One with an empty Set ahead", api.Regex{empty, a, alt}, api.ErrRegex)
	checks(t, "a One with an empty Set behind", api.Regex{a, empty, alt}, api.ErrRegex)
	for word := range 4 {
		var s api.Set
		s[word] = 1 << 63
		checks(t, "a One with one byte", api.Regex{{Kind: api.One, Set: s}}, api.OK)
		checks(t, "a None with a Set", api.Regex{{Kind: api.None, Set: s}}, api.ErrRegex)
		for _, kind := range []int{api.Star, api.Plus, api.Opt} {
			checks(t, "a repetition with a Set", api.Regex{a, {Kind: kind, Set: s}}, api.ErrRegex)
		}
		for _, kind := range []int{api.Cat, api.Alt} {
			checks(t, "a join with a Set", api.Regex{a, a, {Kind: kind, Set: s}}, api.ErrRegex)
		}
	}
}

func TestCheckOfManyPieces(t *testing.T) {
	checks(t, "400 pieces", stars(400), api.OK)
	checks(t, "401 pieces", stars(401), api.ErrBig)
	checks(t, "399 pieces in a row of bytes", rex.Word(strings.Repeat("a", 200)), api.OK)
	checks(t, "401 pieces in a row of bytes", rex.Word(strings.Repeat("a", 201)), api.ErrBig)
	checks(t, "400 expressions", slices.Repeat(api.Regex{a}, 400), api.ErrRegex)
	// ErrBig is told first.
	checks(t, "401 expressions", slices.Repeat(api.Regex{a}, 401), api.ErrBig)
	checks(t, "401 pieces of no kind", slices.Repeat(api.Regex{{Kind: 9}}, 401), api.ErrBig)
}

// P4.1: Start and Parts.

func TestStart(t *testing.T) {
	// (a|b)*c~ and the starts of all its expressions.
	r := api.Regex{a, b, alt, star, c, cat, none, cat}
	for at, want := range []int{0, 1, 0, 0, 4, 0, 6, 0} {
		if got := rex.Start(r, at); got != want {
			t.Errorf("Start(%d): %d, want %d", at, got, want)
		}
	}
	// a(b|c+)
	r = api.Regex{a, b, c, plus, alt, cat}
	for at, want := range []int{0, 1, 2, 2, 1, 0} {
		if got := rex.Start(r, at); got != want {
			t.Errorf("Start(%d): %d, want %d", at, got, want)
		}
	}
}

// The expression that ends at an index is the only row up to there that is valid.
func TestStartOfValidOnes(t *testing.T) {
	for _, r := range valid() {
		for at := range r {
			got, want := rex.Start(r, at), -1
			for from := range at + 1 {
				if wellFormed(r[from : at+1]) {
					want = from
				}
			}
			if got != want {
				t.Errorf("Start(%s, %d): %d, want %d", brief(r), at, got, want)
			}
		}
	}
}

func TestParts(t *testing.T) {
	for _, c := range []struct {
		r    api.Regex
		want []api.Regex
	}{
		{api.Regex{none}, nil},
		{api.Regex{a}, nil},
		{api.Regex{a, star}, []api.Regex{{a}}},
		{api.Regex{a, plus}, []api.Regex{{a}}},
		{api.Regex{a, opt}, []api.Regex{{a}}},
		{api.Regex{a, star, opt}, []api.Regex{{a, star}}},
		{api.Regex{a, b, cat}, []api.Regex{{a}, {b}}},
		{api.Regex{a, b, alt}, []api.Regex{{a}, {b}}},
		{api.Regex{a, b, cat, c, alt}, []api.Regex{{a, b, cat}, {c}}},
		{api.Regex{a, b, c, alt, cat}, []api.Regex{{a}, {b, c, alt}}},
		{api.Regex{a, b, alt, c, star, none, cat, cat}, []api.Regex{{a, b, alt}, {c, star, none, cat}}},
	} {
		got := rex.Parts(c.r)
		if !slices.EqualFunc(got, c.want, slices.Equal) {
			t.Errorf("Parts(%v): %v, want %v", c.r, got, c.want)
		}
	}
}

// The parts of a valid one are valid, and joined again they are the whole.
func TestPartsOfValidOnes(t *testing.T) {
	for _, r := range valid() {
		parts := rex.Parts(r)
		kind := r[len(r)-1].Kind
		if len(parts) != operands[kind] {
			t.Errorf("Parts(%s): %d parts", brief(r), len(parts))
		}
		for _, p := range parts {
			checks(t, "a part of "+brief(r), p, api.OK)
		}
		if len(parts) > 0 {
			same(t, "the parts joined again", rex.Join(kind, parts...), r)
		}
	}
}

// P4.1: Join.

func TestJoin(t *testing.T) {
	x, y := api.Regex{a, star}, api.Regex{b, c, alt}
	for _, kind := range []int{api.Star, api.Plus, api.Opt} {
		same(t, "one operand", rex.Join(kind, x), api.Regex{a, star, {Kind: kind}})
	}
	for _, kind := range []int{api.Cat, api.Alt} {
		same(t, "two operands", rex.Join(kind, x, y), api.Regex{a, star, b, c, alt, {Kind: kind}})
		same(t, "two operands", rex.Join(kind, y, x), api.Regex{b, c, alt, a, star, {Kind: kind}})
	}
}

func TestJoinWithAWrongNumberOfOperands(t *testing.T) {
	x := api.Regex{a}
	for _, c := range []struct {
		kind  int
		parts []api.Regex
	}{
		{api.Star, nil}, {api.Plus, nil}, {api.Opt, nil}, {api.Cat, nil}, {api.Alt, nil},
		{api.Star, []api.Regex{x, x}}, {api.Plus, []api.Regex{x, x}}, {api.Opt, []api.Regex{x, x}},
		{api.Cat, []api.Regex{x}}, {api.Alt, []api.Regex{x}},
		{api.Cat, []api.Regex{x, x, x}}, {api.Alt, []api.Regex{x, x, x}},
		// No kind takes no operand here, and those that do not exist take none at all.
		{api.None, nil}, {api.One, nil}, {api.None, []api.Regex{x}}, {api.One, []api.Regex{x}},
		{7, nil}, {7, []api.Regex{x}}, {-1, nil}, {-1, []api.Regex{x}}, {-1, []api.Regex{x, x}},
	} {
		if got := rex.Join(c.kind, c.parts...); len(got) != 0 {
			t.Errorf("Join(%d) of %d operands: %v", c.kind, len(c.parts), got)
		}
	}
}

// Join asks for the number of the operands alone.
func TestJoinOfAnything(t *testing.T) {
	same(t, "an empty operand", rex.Join(api.Star, nil), api.Regex{star})
	same(t, "two empty operands", rex.Join(api.Cat, nil, api.Regex{}), api.Regex{cat})
	same(t, "an operand that is not valid", rex.Join(api.Alt, api.Regex{cat}, api.Regex{a}), api.Regex{cat, a, alt})
	if got := rex.Join(api.Cat, stars(400), stars(400)); len(got) != 801 {
		t.Errorf("%d pieces, want 801", len(got))
	}
}

// P4.1: Word.

func TestWord(t *testing.T) {
	same(t, "no byte", rex.Word(""), api.Regex{none})
	same(t, "one byte", rex.Word("a"), api.Regex{a})
	same(t, "two bytes", rex.Word("ab"), api.Regex{a, b, cat})
	same(t, "three bytes", rex.Word("abc"), api.Regex{a, b, cat, c, cat})
	same(t, "signs", rex.Word("*\\"), api.Regex{of('*'), of('\\'), cat})
	same(t, "a rune of two bytes", rex.Word("é"), api.Regex{of(0xc3), of(0xa9), cat})
	same(t, "bytes that are no rune", rex.Word("\xff\x00"), api.Regex{of(0xff), of(0), cat})
}

func TestWordOfManyBytes(t *testing.T) {
	var s string
	for i := range 1000 {
		s += string([]byte{byte(i)})
	}
	r := rex.Word(s)
	if len(r) != 1999 {
		t.Fatalf("%d pieces, want 1999", len(r))
	}
	for i, p := range r {
		want := cat
		if i == 0 || i%2 == 1 {
			want = of(s[(i+1)/2])
		}
		if p != want {
			t.Errorf("piece %d: %v, want %v", i, p, want)
		}
	}
}

// P4.1: Same.

func TestSame(t *testing.T) {
	l := []api.Regex{
		{}, {a}, {b}, {none}, {a, a}, {a, star}, {a, plus}, {a, b, cat}, {b, a, cat}, {a, b, alt}, {a, b, cat, star},
		{{Kind: 9}}, {{Kind: api.One}}, {{Kind: api.None, Set: a.Set}}, {{Kind: api.One, Set: api.Set{3: 1}}}, stars(401),
	}
	for i, x := range l {
		for j, y := range l {
			if got := rex.Same(x, slices.Clone(y)); got != (i == j) {
				t.Errorf("Same(%s, %s): %v", brief(x), brief(y), got)
			}
		}
	}
	if !rex.Same(nil, api.Regex{}) || rex.Same(nil, api.Regex{a}) {
		t.Error("nil is the same as no pieces, and as nothing else")
	}
}

// P4.1: Sets.

func TestSets(t *testing.T) {
	full, digits := byteset.Full(), byteset.Range('0', '9')
	for _, c := range []struct {
		r    api.Regex
		want []api.Set
	}{
		{nil, nil},
		{api.Regex{none}, nil},
		{api.Regex{none, star}, nil},
		{api.Regex{a}, []api.Set{a.Set}},
		{api.Regex{b, a, a, alt, star, cat}, []api.Set{b.Set, a.Set, a.Set}},
		{api.Regex{{Kind: api.One, Set: full}, none, cat, {Kind: api.One, Set: digits}, cat}, []api.Set{full, digits}},
		// Any other kind has no set to tell, and any One has one.
		{api.Regex{{Kind: api.None, Set: full}, {Kind: 9, Set: full}, {Kind: api.One}}, []api.Set{{}}},
	} {
		if got := rex.Sets(c.r); !slices.Equal(got, c.want) {
			t.Errorf("Sets(%v): %v, want %v", c.r, got, c.want)
		}
	}
}
