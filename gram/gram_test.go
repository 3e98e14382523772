package gram_test

import (
	"fmt"
	"math"
	"slices"
	"strings"
	"testing"

	"bosket/api"
	"bosket/gram"
)

// odd is a grammar with nearly nothing valid in it, and with several elements of one name.
func odd() api.Grammar {
	return api.Grammar{
		Rules: []api.Rule{{Name: "A", Kind: 7}, {Name: "9 -", Kind: api.Skip}, {Name: "A", Kind: api.Comment, Regex: "("}, {}, {Name: "B"}},
		Sorts: []string{"S", "A", "S", "\xff", "", "B?"},
		Prods: []api.Prod{
			{Sort: 9, Con: "X", Body: []api.Sym{srt(9), tok(-1), tok(3), srt(4), tok(1), srt(3)}, Hints: []int{77}},
			{Sort: -1, Con: "Y", Paren: true},
			{Sort: 2, Con: "X", Paren: true, Body: []api.Sym{srt(2), tok(2), tok(5), srt(6), srt(-1), tok(math.MinInt), srt(math.MaxInt)}},
			{Sort: 9, Con: "", Paren: true, Prec: 5},
			{Sort: 2, Con: "a b\n", Paren: true, Body: make([]api.Sym, 20)},
			{Sort: 4, Con: "Z"},
		},
		Levels: []api.Level{{Side: 9, Rules: []int{-1, -1}}, {}},
		Start:  -7,
	}
}

// P17.2: names of sorts and of rules of all kinds.
func TestName(t *testing.T) {
	for _, g := range []api.Grammar{sums(), odd()} {
		for n, rule := range g.Rules {
			if got := gram.Name(g, tok(n)); got != rule.Name {
				t.Errorf("the rule %d: %q, want %q", n, got, rule.Name)
			}
		}
		for n, name := range g.Sorts {
			if got := gram.Name(g, srt(n)); got != name {
				t.Errorf("the sort %d: %q, want %q", n, got, name)
			}
		}
		for _, n := range outside(len(g.Rules)) {
			if got := gram.Name(g, tok(n)); got != "?" {
				t.Errorf("the rule %d: %q", n, got)
			}
		}
		for _, n := range outside(len(g.Sorts)) {
			if got := gram.Name(g, srt(n)); got != "?" {
				t.Errorf("the sort %d: %q", n, got)
			}
		}
	}
	for _, s := range []api.Sym{srt(0), tok(0)} {
		if got := gram.Name(api.Grammar{}, s); got != "?" {
			t.Errorf("%v of the empty grammar: %q", s, got)
		}
	}
	if got := gram.Name(api.Grammar{Rules: sums().Rules}, srt(0)) + gram.Name(api.Grammar{Sorts: sums().Sorts}, tok(0)); got != "??" {
		t.Errorf("symbols that only the other list has: %q", got)
	}
}

// P17.2: the first rule with a name, or otherwise the first sort.
func TestFind(t *testing.T) {
	g := sums()
	for n, rule := range g.Rules {
		if s, ok := gram.Find(g, rule.Name); s != tok(n) || !ok {
			t.Errorf("%s: %v, %t", rule.Name, s, ok)
		}
	}
	for n, name := range g.Sorts {
		if s, ok := gram.Find(g, name); s != srt(n) || !ok {
			t.Errorf("%s: %v, %t", name, s, ok)
		}
	}
	for name, want := range map[string]api.Sym{"A": tok(0), "9 -": tok(1), "": tok(3), "B": tok(4), "S": srt(0), "\xff": srt(3), "B?": srt(5)} {
		if s, ok := gram.Find(odd(), name); s != want || !ok {
			t.Errorf("%q: %v, %t, want %v", name, s, ok, want)
		}
	}
	for _, name := range []string{"", "e", "EE", "NU", "NUMX", "num", " E", "E ", "Add", "Nil", "?", "[0-9]+", "E\x00"} {
		if s, ok := gram.Find(g, name); s != (api.Sym{}) || ok {
			t.Errorf("%q: %v, %t", name, s, ok)
		}
		if s, ok := gram.Find(api.Grammar{}, name); s != (api.Sym{}) || ok {
			t.Errorf("%q in the empty grammar: %v, %t", name, s, ok)
		}
	}
	g.Rules = nil
	if s, ok := gram.Find(g, "L"); s != srt(1) || !ok {
		t.Errorf("L without rules: %v, %t", s, ok)
	}
}

// P17.2: the productions of a sort, in order.
func TestOf(t *testing.T) {
	mixed := sums()
	slices.Reverse(mixed.Prods)
	mixed.Prods[3].Sort = l
	for _, c := range []struct {
		g    api.Grammar
		sort int
		want []int
	}{
		{sums(), e, []int{0, 1, 2, 3, 4}}, {sums(), l, []int{5, 6}}, {sums(), 2, nil}, {sums(), -1, nil}, {sums(), math.MinInt, nil}, {sums(), math.MaxInt, nil}, {sums(), 1 << 32, nil},
		{mixed, e, []int{2, 4, 5, 6}}, {mixed, l, []int{0, 1, 3}}, {api.Grammar{}, 0, nil}, {api.Grammar{Sorts: []string{"S"}}, 0, nil},
		{odd(), 2, []int{2, 4}}, {odd(), 4, []int{5}}, {odd(), 9, []int{0, 3}}, {odd(), -1, []int{1}}, {odd(), 0, nil},
	} {
		if got := gram.Of(c.g, c.sort); !slices.Equal(got, c.want) {
			t.Errorf("the sort %d: %v, want %v", c.sort, got, c.want)
		}
	}
	var many api.Grammar
	var want []int
	for i := range 3000 {
		many.Prods = append(many.Prods, api.Prod{Sort: i % 3})
		if i%3 == 1 {
			want = append(want, i)
		}
	}
	if got := gram.Of(many, 1); !slices.Equal(got, want) {
		t.Errorf("%d productions, want %d", len(got), len(want))
	}
}

// P17.2: the first production with a constructor name.
func TestCon(t *testing.T) {
	g := sums()
	for i, p := range g.Prods {
		if got := gram.Con(g, p.Con); got != i {
			t.Errorf("%s: %d, want %d", p.Con, got, i)
		}
	}
	for name, want := range map[string]int{"X": 0, "Y": 1, "": 3, "a b\n": 4, "Z": 5} {
		if got := gram.Con(odd(), name); got != want {
			t.Errorf("%q: %d, want %d", name, got, want)
		}
	}
	for _, name := range []string{"", "add", "Ad", "Adds", " Add", "Add ", "E", "PLUS", "E.Add", "Add\x00"} {
		if got := gram.Con(g, name); got != -1 {
			t.Errorf("%q: %d", name, got)
		}
		if got := gram.Con(api.Grammar{}, name); got != -1 {
			t.Errorf("%q in the empty grammar: %d", name, got)
		}
	}
}

// P17.2: the first production of a sort that is omitted from trees.
func TestParen(t *testing.T) {
	late := sums()
	late.Prods = append(late.Prods, late.Prods[4], late.Prods[4])
	late.Prods[7].Sort = l
	first := clone(late)
	first.Prods[0].Paren = true
	none := sums()
	none.Prods[4].Paren = false
	for _, c := range []struct {
		g          api.Grammar
		sort, want int
	}{
		{sums(), e, 4}, {sums(), l, -1}, {sums(), 2, -1}, {sums(), -1, -1}, {sums(), math.MaxInt, -1}, {sums(), math.MinInt, -1}, {sums(), 4, -1},
		{late, e, 4}, {late, l, 7}, {first, e, 0}, {first, l, 7}, {none, e, -1}, {none, l, -1}, {api.Grammar{}, 0, -1},
		{odd(), 2, 2}, {odd(), 9, 3}, {odd(), -1, 1}, {odd(), 4, -1}, {odd(), 0, -1},
	} {
		if got := gram.Paren(c.g, c.sort); got != c.want {
			t.Errorf("the sort %d: %d, want %d", c.sort, got, c.want)
		}
	}
}

// P17.2: the lines of productions.
func TestLine(t *testing.T) {
	for _, c := range []struct {
		g     api.Grammar
		lines []string
	}{
		{sums(), []string{"E.Add = E PLUS E", "E.Mul = E TIMES E", "E.Neg = MINUS E", "E.Num = NUM", "E.Group = OPEN E SHUT", "L.Nil =", "L.Cons = L E"}},
		{odd(), []string{"?.X = ? ?   9 - \xff", "?.Y =", "S.X = S A ? ? ? ? ?", "?. =", "S.a b\n =" + strings.Repeat(" A", 20), ".Z ="}},
		{api.Grammar{Prods: []api.Prod{{Con: "C", Body: []api.Sym{{}, srt(0)}}}}, []string{"?.C = ? ?"}},
		{api.Grammar{}, nil},
	} {
		for i, want := range c.lines {
			if got := gram.Line(c.g, i); got != want {
				t.Errorf("the line %d: %q, want %q", i, got, want)
			}
		}
		for _, i := range outside(len(c.lines)) {
			if got := gram.Line(c.g, i); got != "" {
				t.Errorf("the line %d of %d: %q", i, len(c.lines), got)
			}
		}
	}
}

// P17.2: a line of a production with a token that is skipped, and one of the greatest length.
func TestLineOfSymbolsThatAreNone(t *testing.T) {
	g := sums()
	g.Prods[0].Body = []api.Sym{tok(ws), tok(note), tok(10), srt(2), srt(l)}
	if got := gram.Line(g, 0); got != "E.Add = WS NOTE ? ? L" {
		t.Errorf("%q", got)
	}
	g.Sorts[0] = strings.Repeat("s", 40)
	g.Prods[0].Con, g.Prods[0].Body = strings.Repeat("c", 40), slices.Repeat([]api.Sym{srt(0)}, 12)
	if got := gram.Line(g, 0); got != g.Sorts[0]+"."+g.Prods[0].Con+" ="+strings.Repeat(" "+g.Sorts[0], 12) {
		t.Errorf("%q", got)
	}
}

// changes returns grammars that differ from sums, and from each other, in one part.
func changes() map[string]api.Grammar {
	all := map[string]api.Grammar{"sums": sums(), "nothing": {}}
	add := func(what string, change func(g *api.Grammar)) { all[what] = with(sums(), change) }
	for i := range sums().Rules {
		add(fmt.Sprint("name of the rule ", i), func(g *api.Grammar) { g.Rules[i].Name += "x" })
		add(fmt.Sprint("kind of the rule ", i), func(g *api.Grammar) { g.Rules[i].Kind += 3 })
		add(fmt.Sprint("expression of the rule ", i), func(g *api.Grammar) { g.Rules[i].Regex += "x" })
		add(fmt.Sprint("without the rules from ", i), func(g *api.Grammar) { g.Rules = g.Rules[:i] })
	}
	for i := range sums().Sorts {
		add(fmt.Sprint("name of the sort ", i), func(g *api.Grammar) { g.Sorts[i] += "x" })
		add(fmt.Sprint("without the sorts from ", i), func(g *api.Grammar) { g.Sorts = g.Sorts[:i] })
	}
	for i, p := range sums().Prods {
		add(fmt.Sprint("sort of the production ", i), func(g *api.Grammar) { g.Prods[i].Sort += 2 })
		add(fmt.Sprint("con of the production ", i), func(g *api.Grammar) { g.Prods[i].Con += "x" })
		add(fmt.Sprint("paren of the production ", i), func(g *api.Grammar) { g.Prods[i].Paren = !p.Paren })
		add(fmt.Sprint("prec of the production ", i), func(g *api.Grammar) { g.Prods[i].Prec += 20 })
		add(fmt.Sprint("one more symbol in the production ", i), func(g *api.Grammar) { g.Prods[i].Body = append(g.Prods[i].Body, api.Sym{}) })
		add(fmt.Sprint("one more hint in the production ", i), func(g *api.Grammar) { g.Prods[i].Hints = append(g.Prods[i].Hints, 0) })
		add(fmt.Sprint("without the productions from ", i), func(g *api.Grammar) { g.Prods = g.Prods[:i] })
		for k := range p.Body {
			add(fmt.Sprint("number of the symbol ", i, k), func(g *api.Grammar) { g.Prods[i].Body[k].N += 20 })
			add(fmt.Sprint("kind of the symbol ", i, k), func(g *api.Grammar) { g.Prods[i].Body[k].Sort = !g.Prods[i].Body[k].Sort })
			add(fmt.Sprint("without the symbols from ", i, k), func(g *api.Grammar) { g.Prods[i].Body = g.Prods[i].Body[:k] })
		}
		for k := range p.Hints {
			add(fmt.Sprint("hint ", i, k), func(g *api.Grammar) { g.Prods[i].Hints[k] += 4 })
			add(fmt.Sprint("without the hints from ", i, k), func(g *api.Grammar) { g.Prods[i].Hints = g.Prods[i].Hints[:k] })
		}
	}
	for i, level := range sums().Levels {
		add(fmt.Sprint("side of the level ", i), func(g *api.Grammar) { g.Levels[i].Side += 4 })
		add(fmt.Sprint("without the levels from ", i), func(g *api.Grammar) { g.Levels = g.Levels[:i] })
		add(fmt.Sprint("one more rule in the level ", i), func(g *api.Grammar) { g.Levels[i].Rules = append(g.Levels[i].Rules, 0) })
		for k := range level.Rules {
			add(fmt.Sprint("rule of the level ", i, k), func(g *api.Grammar) { g.Levels[i].Rules[k] += 20 })
			add(fmt.Sprint("without the rules of the level from ", i, k), func(g *api.Grammar) { g.Levels[i].Rules = g.Levels[i].Rules[:k] })
		}
	}
	add("another start", func(g *api.Grammar) { g.Start = e })
	add("one more rule", func(g *api.Grammar) { g.Rules = append(g.Rules, api.Rule{}) })
	add("one more sort", func(g *api.Grammar) { g.Sorts = append(g.Sorts, "") })
	add("one more production", func(g *api.Grammar) { g.Prods = append(g.Prods, api.Prod{}) })
	add("one more level", func(g *api.Grammar) { g.Levels = append(g.Levels, api.Level{}) })
	add("levels in another order", func(g *api.Grammar) { g.Levels[0], g.Levels[1] = g.Levels[1], g.Levels[0] })
	add("a rule in another level", func(g *api.Grammar) { g.Levels[1].Rules, g.Levels[2].Rules = []int{plus}, []int{minus, times} })
	return all
}

// P17.2: grammars that differ in one part only are not the same, all others are.
func TestSame(t *testing.T) {
	all := changes()
	for what, a := range all {
		for other, b := range all {
			if got := gram.Same(a, clone(b)); got != (what == other) {
				t.Errorf("%s, %s: %t", what, other, got)
			}
		}
	}
}

// P17.2: grammars that are valid and that are not, held against each other.
func TestSameOfManyGrammars(t *testing.T) {
	x := source(3)
	same, others := 0, 0
	for _, g := range samples(3000) {
		other := clone(g)
		alter(&x, &other)
		want := equal(g, other)
		if got := gram.Same(g, other); got != want || got != gram.Same(other, g) {
			t.Fatalf("%t, want %t: %s and %s", got, want, brief(g), brief(other))
		}
		if !gram.Same(g, g) || !gram.Same(g, clone(g)) || !gram.Same(g, full(g)) {
			t.Fatalf("not the same as itself: %s", brief(g))
		}
		if want {
			same++
		} else {
			others++
		}
	}
	if same < 50 || others < 50 {
		t.Errorf("%d are the same, %d are not", same, others)
	}
}

// P17.2: lists that are nil are the same as lists that are empty.
func TestSameOfEmptyLists(t *testing.T) {
	empty := api.Grammar{Rules: []api.Rule{}, Sorts: []string{}, Prods: []api.Prod{}, Levels: []api.Level{}}
	if !gram.Same(empty, api.Grammar{}) || !gram.Same(api.Grammar{}, empty) {
		t.Error("the empty grammar")
	}
	a := api.Grammar{Prods: []api.Prod{{}}, Levels: []api.Level{{}}}
	b := api.Grammar{Prods: []api.Prod{{Body: []api.Sym{}, Hints: []int{}}}, Levels: []api.Level{{Rules: []int{}}}}
	if !gram.Same(a, b) || !gram.Same(b, a) {
		t.Error("empty lists of productions and levels")
	}
}

// The example.
func TestExample(t *testing.T) {
	if got := gram.Line(sums(), 0); got != "E.Add = E PLUS E" {
		t.Errorf("%q", got)
	}
}
