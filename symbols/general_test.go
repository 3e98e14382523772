package symbols_test

import (
	"math"
	"runtime"
	"slices"
	"strings"
	"testing"

	"bosket/api"
	"bosket/symbols"
)

// P2, rule 4: the list that Of is given is neither modified nor kept, in its spare capacity neither.
func TestNamesThatAreGivenStayAsTheyAre(t *testing.T) {
	all := append(make([]string, 0, 8), "a", "b", "c", "spare", "more")
	before := slices.Clone(all[:cap(all)])
	x, _, err := symbols.Of(all[:3]...)
	if err != api.OK {
		t.Fatal(err)
	}
	x.Add("d")
	if !slices.Equal(all[:cap(all)], before) {
		t.Errorf("%q, before %q", all[:cap(all)], before)
	}
	for i := range all {
		all[i] = "z"
	}
	holds(t, x, "a", "b", "c", "d")
	symbols.Of(all...) // z twice
	if !slices.Equal(all, []string{"z", "z", "z", "z", "z"}) {
		t.Errorf("%q", all)
	}
}

// P2, rule 4: what Names returns is nobody else's.
func TestResultsOfNamesAreNew(t *testing.T) {
	x := made(t, "a", "b", "c")
	one, two := x.Names(), x.Names()
	one = one[:cap(one)]
	for i := range one {
		one[i] = "z"
	}
	holds(t, x, "a", "b", "c")
	x.Add("d")
	if !slices.Equal(two, []string{"a", "b", "c"}) {
		t.Errorf("Names: %q", two)
	}
	_ = append(x.Names(), "z")
	x.Add("e")
	holds(t, x, "a", "b", "c", "d", "e")
}

// P2, rule 4: tables have nothing in common.
func TestTablesAreApart(t *testing.T) {
	x, y := made(t, "a", "b"), made(t, "b")
	z, _, _ := symbols.Of(x.Names()...)
	x.Add("c")
	y.Add("a")
	z.Add("d")
	holds(t, x, "a", "b", "c")
	holds(t, y, "b", "a")
	holds(t, z, "a", "b", "d")
	holds(t, made(t))
}

// heap returns how many bytes are in use, when all that nobody holds is gone.
func heap() uint64 {
	runtime.GC()
	runtime.GC()
	var m runtime.MemStats
	runtime.ReadMemStats(&m)
	return m.HeapAlloc
}

// P2, rule 4: a table does not hold on to the long texts of which names are parts.
func TestLongTextsAreNotKept(t *testing.T) {
	const size = 1 << 20
	part := func(name string) string { return (name + strings.Repeat(" ", size))[:len(name)] }
	before := heap()
	x, y := symbols.New(), symbols.New()
	for i, name := range several(64) {
		x.Add(part(name))
		x.Find(part(name))
		if i == 0 {
			y, _, _ = symbols.Of(part("a"), part("b"), part("c"), part("d"), part("e"), part("f"), part("g"), part("h"))
		}
	}
	if after := heap(); after > before+4*size {
		t.Errorf("%d bytes are kept", after-before)
	}
	holds(t, x, several(64)...)
	holds(t, y, "a", "b", "c", "d", "e", "f", "g", "h")
}

// P1: every call ends and does not panic, on a table in any state.
func TestEveryCallEnds(t *testing.T) {
	texts := slices.Concat(noNames(), several(310), noNames(), several(3))
	symbols.Of()
	symbols.Of(texts...)
	for at := range texts {
		symbols.Of(texts[at:]...)
	}
	for _, count := range []int{0, 1, 299, 300} {
		x := made(t, several(count)...)
		for _, s := range texts {
			x.Add(s)
			x.Find(s)
		}
		for _, n := range []int{math.MinInt, -1, 0, 1, 299, 300, 301, math.MaxInt} {
			x.Name(n)
		}
		x.Names()
		x.Len()
	}
}
