package byteset_test

import (
	"slices"
	"testing"

	"bosket/api"
	"bosket/byteset"
)

// P1: every call ends and does not panic; no argument is ruled out.
func TestEveryCallEnds(t *testing.T) {
	for from := range 256 {
		for to := range 256 {
			byteset.Range(byte(from), byte(to))
		}
	}
	for _, a := range samples() {
		for b := range 256 {
			byteset.Has(a, byte(b))
		}
		for _, b := range samples() {
			byteset.Or(a, b)
			byteset.And(a, b)
			byteset.Less(a, b)
		}
		byteset.Not(a)
		byteset.Len(a)
		byteset.Empty(a)
		byteset.First(a)
		byteset.List(a)
		byteset.Spans(a)
	}
	byteset.Of()
	byteset.Of(nil...)
	byteset.Of(slices.Repeat(all(0, 255), 300)...)
	byteset.Full()
	byteset.Classes()
	byteset.Classes(nil...)
	byteset.Classes(scattered(5000)...)
	for n := range 256 {
		var class [256]uint8
		for b := range class {
			class[b] = uint8(b * n)
		}
		byteset.Count(class)
	}
}

// P2, rule 4: Of and Classes leave their lists as they are, and what is behind them.
func TestListsAreLeftAsTheyAre(t *testing.T) {
	bytes := append([]byte("zebra"), 1, 0, 255, 7)
	before := slices.Clone(bytes)
	s := byteset.Of(bytes[:5]...)
	same(t, "Of a part", s, byteset.Of('a', 'b', 'e', 'r', 'z'))
	if !slices.Equal(bytes, before) {
		t.Errorf("Of changed its list to %v", bytes)
	}

	sets := samples()
	kept := slices.Clone(sets)
	class := byteset.Classes(sets[:9]...)
	if class != modelClasses(kept[:9]) {
		t.Errorf("Classes of a part: %v", class)
	}
	if !slices.Equal(sets, kept) {
		t.Error("Classes changed its list")
	}
}

// P2, rule 4: what was returned does not change with the list that it was made of.
func TestListsAreNotKept(t *testing.T) {
	bytes := []byte("ab")
	s := byteset.Of(bytes...)
	bytes[0] = 'x'
	same(t, "Of", s, byteset.Of('a', 'b'))
	same(t, "Of the changed list", byteset.Of(bytes...), byteset.Of('b', 'x'))

	sets := []api.Set{byteset.Of('a')}
	class := byteset.Classes(sets...)
	sets[0] = byteset.Of('b')
	if class['a'] != 1 || class['b'] != 0 {
		t.Errorf("Classes: %d, %d", class['a'], class['b'])
	}
	if class = byteset.Classes(sets...); class['a'] != 0 || class['b'] != 1 {
		t.Errorf("Classes of the changed list: %d, %d", class['a'], class['b'])
	}
}

// P2, rule 4: the lists that were returned share nothing with each other.
func TestResultsAreNew(t *testing.T) {
	for _, s := range samples() {
		list, spans := byteset.List(s), byteset.Spans(s)
		for i := range list {
			list[i]++
		}
		for i := range spans {
			spans[i].From++
		}
		_ = append(list, 1)
		_ = append(spans, byteset.Span{From: 1, To: 1})
		if got := byteset.List(s); !slices.Equal(got, modelOf(s).list()) {
			t.Errorf("List(%x) after a change of the one before: %v", s, got)
		}
		var back api.Set
		for _, p := range byteset.Spans(s) {
			back = byteset.Or(back, byteset.Range(p.From, p.To))
		}
		same(t, "Spans after a change of the ones before", back, s)
	}
}

// P2, rule 4: a call answers the same, whatever was called before.
func TestCallsAnswerTheSameAgain(t *testing.T) {
	l := samples()
	for _, a := range l {
		for _, b := range l {
			class := byteset.Classes(a, b)
			byteset.Classes(b)
			byteset.Classes(l...)
			if byteset.Classes(a, b) != class {
				t.Errorf("Classes(%x, %x) are others the second time", a, b)
			}
		}
		list := byteset.List(a)
		byteset.List(byteset.Not(a))
		if !slices.Equal(byteset.List(a), list) {
			t.Errorf("List(%x) is another one the second time", a)
		}
	}
}
