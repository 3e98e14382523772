package byteset_test

import (
	"math"
	"slices"
	"testing"

	"bosket/api"
	"bosket/byteset"
)

// borders are the first and the last byte of each word.
var borders = []byte{0, 63, 64, 127, 128, 191, 192, 255}

// same checks a set.
func same(t *testing.T, call string, got, want api.Set) {
	t.Helper()
	if got != want {
		t.Errorf("%s: %x, want %x", call, got, want)
	}
}

// holds checks everything that can be told of one set, against its bytes in increasing order.
func holds(t *testing.T, s api.Set, l []byte) {
	t.Helper()
	for b := range 256 {
		if got, want := byteset.Has(s, byte(b)), slices.Contains(l, byte(b)); got != want {
			t.Errorf("Has(%x, %d): %v", s, b, got)
		}
	}
	if n := byteset.Len(s); n != len(l) {
		t.Errorf("Len(%x): %d, want %d", s, n, len(l))
	}
	if empty := byteset.Empty(s); empty != (len(l) == 0) {
		t.Errorf("Empty(%x): %v", s, empty)
	}
	first := -1
	if len(l) > 0 {
		first = int(l[0])
	}
	if got := byteset.First(s); got != first {
		t.Errorf("First(%x): %d, want %d", s, got, first)
	}
	if got := byteset.List(s); !slices.Equal(got, l) {
		t.Errorf("List(%x): %v, want %v", s, got, l)
	}
}

// all returns the bytes from one to another one.
func all(from, to int) []byte {
	var l []byte
	for b := from; b <= to; b++ {
		l = append(l, byte(b))
	}
	return l
}

// P2.1: Of.

func TestOf(t *testing.T) {
	cases := []struct {
		name string
		l    []byte
		want api.Set
	}{
		{"no byte", nil, api.Set{}},
		{"no byte, of a list", []byte{}, api.Set{}},
		{"the least", []byte{0}, api.Set{1}},
		{"the greatest", []byte{255}, api.Set{3: 1 << 63}},
		{"the last of the first word", []byte{63}, api.Set{1 << 63}},
		{"the first of the second word", []byte{64}, api.Set{1: 1}},
		{"the borders", borders, api.Set{1<<63 | 1, 1<<63 | 1, 1<<63 | 1, 1<<63 | 1}},
		{"some of one word", []byte{1, 3, 4}, api.Set{1<<1 | 1<<3 | 1<<4}},
		{"in no order", []byte{4, 200, 1, 3}, api.Set{1<<1 | 1<<3 | 1<<4, 0, 0, 1 << 8}},
		{"some of them twice", []byte{7, 7, 130, 7, 130}, api.Set{1 << 7, 0, 1 << 2}},
		{"all", all(0, 255), api.Set{math.MaxUint64, math.MaxUint64, math.MaxUint64, math.MaxUint64}},
	}
	for _, c := range cases {
		same(t, "Of "+c.name, byteset.Of(c.l...), c.want)
	}
	same(t, "Of()", byteset.Of(), api.Set{})
	same(t, "Of(a, b)", byteset.Of('a', 'b'), api.Set{1: 1<<('a'-64) | 1<<('b'-64)})
}

func TestOfOneByte(t *testing.T) {
	for b := range 256 {
		var want api.Set
		want[b/64] = 1 << (b % 64)
		s := byteset.Of(byte(b))
		same(t, "Of one byte", s, want)
		holds(t, s, []byte{byte(b)})
	}
}

// P2.1: Range, Full.

func TestRange(t *testing.T) {
	for from := range 256 {
		for to := range 256 {
			var want model
			for b := from; b <= to; b++ {
				want[b] = true
			}
			if got := byteset.Range(byte(from), byte(to)); got != want.set() {
				t.Errorf("Range(%d, %d): %x, want %x", from, to, got, want.set())
			}
		}
	}
}

func TestRangeAtTheBorders(t *testing.T) {
	cases := []struct {
		from, to byte
		want     api.Set
	}{
		{0, 0, api.Set{1}},
		{0, 63, api.Set{math.MaxUint64}},
		{63, 64, api.Set{1 << 63, 1}},
		{64, 127, api.Set{1: math.MaxUint64}},
		{127, 128, api.Set{1: 1 << 63, 2: 1}},
		{128, 191, api.Set{2: math.MaxUint64}},
		{191, 192, api.Set{2: 1 << 63, 3: 1}},
		{192, 255, api.Set{3: math.MaxUint64}},
		{255, 255, api.Set{3: 1 << 63}},
		{0, 255, api.Set{math.MaxUint64, math.MaxUint64, math.MaxUint64, math.MaxUint64}},
		{1, 0, api.Set{}},
		{64, 63, api.Set{}},
		{255, 254, api.Set{}},
		{255, 0, api.Set{}},
	}
	for _, c := range cases {
		same(t, "Range", byteset.Range(c.from, c.to), c.want)
	}
}

func TestFull(t *testing.T) {
	same(t, "Full", byteset.Full(), api.Set{math.MaxUint64, math.MaxUint64, math.MaxUint64, math.MaxUint64})
	holds(t, byteset.Full(), all(0, 255))
}

// P2.1: Has, Len, Empty, First, List of one set.

func TestOneSet(t *testing.T) {
	for _, s := range samples() {
		holds(t, s, modelOf(s).list())
	}
}

func TestHasIsToldByTheBit(t *testing.T) {
	s := api.Set{1<<63 | 1<<5, 1, 0, 1 << 63}
	for b := range 256 {
		want := b == 5 || b == 63 || b == 64 || b == 255
		if got := byteset.Has(s, byte(b)); got != want {
			t.Errorf("Has(%x, %d): %v", s, b, got)
		}
	}
}

func TestTheEmptySet(t *testing.T) {
	holds(t, api.Set{}, nil)
	if l := byteset.Spans(api.Set{}); len(l) != 0 {
		t.Errorf("Spans of the empty set: %v", l)
	}
	same(t, "Not of the empty set", byteset.Not(api.Set{}), byteset.Full())
	same(t, "Not of all bytes", byteset.Not(byteset.Full()), api.Set{})
}

// P2.1: Or, And, Less, Not.

func TestOrAndLess(t *testing.T) {
	for _, a := range samples() {
		for _, b := range samples() {
			m, n := modelOf(a), modelOf(b)
			var or, and, less model
			for i := range m {
				or[i] = m[i] || n[i]
				and[i] = m[i] && n[i]
				less[i] = m[i] && !n[i]
			}
			same(t, "Or", byteset.Or(a, b), or.set())
			same(t, "And", byteset.And(a, b), and.set())
			same(t, "Less", byteset.Less(a, b), less.set())
		}
	}
}

func TestOrAndLessOfSomeWords(t *testing.T) {
	a, b := api.Set{0b1100, 0b0011, 0, 1 << 63}, api.Set{0b1010, 0b0100, 1, 0}
	same(t, "Or", byteset.Or(a, b), api.Set{0b1110, 0b0111, 1, 1 << 63})
	same(t, "And", byteset.And(a, b), api.Set{0b1000})
	same(t, "Less", byteset.Less(a, b), api.Set{0b0100, 0b0011, 0, 1 << 63})
	same(t, "Less the other way", byteset.Less(b, a), api.Set{0b0010, 0b0100, 1})
}

func TestNot(t *testing.T) {
	for _, s := range samples() {
		m := modelOf(s)
		for i := range m {
			m[i] = !m[i]
		}
		same(t, "Not", byteset.Not(s), m.set())
	}
	same(t, "Not of some words", byteset.Not(api.Set{1, 0, math.MaxUint64, 1 << 63}),
		api.Set{math.MaxUint64 - 1, math.MaxUint64, 0, 1<<63 - 1})
}

// P2.1: Spans.

func TestSpans(t *testing.T) {
	type spans = []byteset.Span
	cases := []struct {
		name string
		l    []byte
		want spans
	}{
		{"the example", []byte("abcx"), spans{{'a', 'c'}, {'x', 'x'}}},
		{"none", nil, nil},
		{"the least", []byte{0}, spans{{0, 0}}},
		{"the greatest", []byte{255}, spans{{255, 255}}},
		{"both ends", []byte{0, 255}, spans{{0, 0}, {255, 255}}},
		{"two beside each other", []byte{8, 9}, spans{{8, 9}}},
		{"two with one between them", []byte{8, 10}, spans{{8, 8}, {10, 10}}},
		{"one over the border of a word", []byte{62, 63, 64}, spans{{62, 64}}},
		{"two that touch at the border of a word", append(all(60, 63), all(64, 70)...), spans{{60, 70}}},
		{"up to the border of a word", all(100, 127), spans{{100, 127}}},
		{"from the border of a word", all(128, 150), spans{{128, 150}}},
		{"a gap on the border of a word", []byte{190, 192}, spans{{190, 190}, {192, 192}}},
		{"the borders", borders, spans{{0, 0}, {63, 64}, {127, 128}, {191, 192}, {255, 255}}},
		{"all", all(0, 255), spans{{0, 255}}},
		{"all but the ends", all(1, 254), spans{{1, 254}}},
	}
	for _, c := range cases {
		if got := byteset.Spans(byteset.Of(c.l...)); !slices.Equal(got, c.want) {
			t.Errorf("Spans of %s: %v, want %v", c.name, got, c.want)
		}
	}
}

func TestSpansOfEveryOtherByte(t *testing.T) {
	for first := range 2 {
		var l []byte
		var want []byteset.Span
		for b := first; b < 256; b += 2 {
			l = append(l, byte(b))
			want = append(want, byteset.Span{From: byte(b), To: byte(b)})
		}
		if got := byteset.Spans(byteset.Of(l...)); !slices.Equal(got, want) {
			t.Errorf("Spans: %v", got)
		}
	}
}

// The spans are as few as can be: they rise, and there is a byte that is left out between two of them.
func TestSpansAreShortest(t *testing.T) {
	for _, s := range samples() {
		var got model
		last := -2
		for _, p := range byteset.Spans(s) {
			if int(p.From) <= last+1 || p.To < p.From {
				t.Errorf("Spans of %x: %v comes behind %d", s, p, last)
			}
			for b := int(p.From); b <= int(p.To); b++ {
				got[b] = true
			}
			last = int(p.To)
		}
		same(t, "Spans", got.set(), s)
	}
}

// P2.3.

func TestAListDeterminesItsSet(t *testing.T) {
	for _, s := range samples() {
		same(t, "Of its List", byteset.Of(byteset.List(s)...), s)
	}
}

func TestSpansDetermineTheirSet(t *testing.T) {
	for _, s := range samples() {
		var back api.Set
		for _, p := range byteset.Spans(s) {
			back = byteset.Or(back, byteset.Range(p.From, p.To))
		}
		same(t, "the Ranges of its Spans", back, s)
	}
}

func TestDifferentSetsDifferInListAndSpans(t *testing.T) {
	l := samples()
	for i, a := range l {
		for _, b := range l[:i] {
			lists := slices.Equal(byteset.List(a), byteset.List(b))
			spans := slices.Equal(byteset.Spans(a), byteset.Spans(b))
			if equal := a == b; lists != equal || spans != equal {
				t.Errorf("%x, %x: equal Lists %v, equal Spans %v", a, b, lists, spans)
			}
		}
	}
}
