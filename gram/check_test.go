package gram_test

import (
	"fmt"
	"math"
	"slices"
	"strings"
	"testing"

	"bosket/api"
	"bosket/gram"
)

// P17.1: the numbers of the lists.
func TestNumbersOfLists(t *testing.T) {
	if l := []int{gram.Rules, gram.Sorts, gram.Prods, gram.Levels, gram.Start}; !slices.Equal(l, []int{1, 2, 3, 4, 5}) {
		t.Error(l)
	}
}

// P17.1: Has of sorts and of rules of kind Main.
func TestHas(t *testing.T) {
	g := sums()
	for n := range g.Sorts {
		if !gram.Has(g, srt(n)) {
			t.Errorf("the sort %d is not there", n)
		}
	}
	for n := range g.Rules {
		if got := gram.Has(g, tok(n)); got != (n != ws && n != note) {
			t.Errorf("the rule %d: %t", n, got)
		}
	}
	for _, n := range append(outside(len(g.Sorts)), 5, 9) {
		if gram.Has(g, srt(n)) {
			t.Errorf("the sort %d is there", n)
		}
	}
	for _, n := range outside(len(g.Rules)) {
		if gram.Has(g, tok(n)) {
			t.Errorf("the rule %d is there", n)
		}
	}
	if gram.Has(api.Grammar{}, srt(0)) || gram.Has(api.Grammar{}, tok(0)) || gram.Has(api.Grammar{Rules: g.Rules}, srt(0)) || gram.Has(api.Grammar{Sorts: g.Sorts}, tok(0)) {
		t.Error("symbols of grammars without such are there")
	}
}

// P17.1: Has of rules whose kind is none, and of sorts whatever they are called.
func TestHasInInvalidGrammars(t *testing.T) {
	for _, kind := range []int{-1, 1, 2, 3, 4, 256, 1 << 32, math.MinInt, math.MaxInt} {
		if gram.Has(api.Grammar{Rules: []api.Rule{{Name: "A", Kind: kind, Regex: "a"}}}, tok(0)) {
			t.Errorf("a rule of kind %d is there", kind)
		}
	}
	g := api.Grammar{Rules: []api.Rule{{Name: "9", Regex: "("}, {}}, Sorts: []string{"", "9", "9"}, Start: -1}
	for _, s := range []api.Sym{tok(0), tok(1), srt(0), srt(1), srt(2)} {
		if !gram.Has(g, s) {
			t.Errorf("%v is not there", s)
		}
	}
}

// P17.1: Encloses of all short productions.
func TestEncloses(t *testing.T) {
	symbols := []api.Sym{tok(0), tok(1), tok(-5), tok(99), srt(0), srt(1), srt(-5), srt(99)}
	count := 0
	for _, sort := range []int{0, 1, -5, 99, 2} {
		bodies := [][]api.Sym{nil}
		for i := 0; i < len(bodies) && len(bodies[i]) <= 4; i++ {
			p := api.Prod{Sort: sort, Body: bodies[i], Paren: i%2 == 0, Prec: i%3 - 1}
			got := gram.Encloses(p)
			if got != (pattern(p) == "tst") {
				t.Errorf("%v: %t", p, got)
			}
			if got {
				count++
			}
			for _, s := range symbols {
				if len(bodies[i]) < 4 {
					bodies = append(bodies, append(slices.Clone(bodies[i]), s))
				}
			}
		}
	}
	if count != 4*16 {
		t.Errorf("%d productions enclose", count)
	}
}

// P17.1: what makes a production one that encloses is its symbols alone.
func TestEnclosesLooksAtSymbolsOnly(t *testing.T) {
	for _, p := range []api.Prod{{}, {Con: "9", Paren: true}, {Prec: 7, Hints: []int{9}}, {Hints: make([]int, 2), Paren: true}} {
		p.Sort, p.Body = 1, []api.Sym{tok(3), srt(1), tok(3)}
		if !gram.Encloses(p) {
			t.Errorf("%v", p)
		}
		p.Sort = 3
		if gram.Encloses(p) {
			t.Errorf("%v", p)
		}
		p.Body = []api.Sym{tok(3), tok(3), tok(3)} // a token with the number of the sort
		if gram.Encloses(p) {
			t.Errorf("%v", p)
		}
	}
}

// P17.1: valid grammars.
func TestCheckOfValidGrammars(t *testing.T) {
	checked(t, "sums", sums(), gram.Fault{})
	for what, change := range map[string]func(g *api.Grammar){
		"another start":  func(g *api.Grammar) { g.Start = e },
		"no productions": func(g *api.Grammar) { g.Prods = nil },
		"no levels":      func(g *api.Grammar) { g.Levels = nil },
		"sorts only":     func(g *api.Grammar) { *g = api.Grammar{Sorts: []string{"S"}} },
		"names of key words": func(g *api.Grammar) {
			g.Sorts = []string{"sort", "start"}
			g.Prods[0].Con = "token"
			g.Rules[0].Name = "_"
		},
		"a sort like a Con":     func(g *api.Grammar) { g.Sorts[0] = "Add" },
		"a Con like a rule":     func(g *api.Grammar) { g.Prods[0].Con = "PLUS" },
		"a Con like its sort":   func(g *api.Grammar) { g.Prods[0].Con = "E" },
		"names in another case": func(g *api.Grammar) { g.Sorts = []string{"pLUS", "Plus"}; g.Prods[0].Con = "mul" },
		"names of 40 bytes":     func(g *api.Grammar) { g.Sorts[0] = strings.Repeat("a", 40); g.Prods[0].Con = strings.Repeat("b", 40) },
		"a body without hints":  func(g *api.Grammar) { g.Prods[5].Body = []api.Sym{srt(e)}; g.Prods[5].Hints = []int{} },
		"empty lists, not nil": func(g *api.Grammar) {
			g.Prods[5].Body, g.Prods[5].Hints, g.Levels = []api.Sym{}, []int{}, []api.Level{}
		},
		"Prec of a foreign rule": func(g *api.Grammar) { g.Prods[0].Prec, g.Prods[5].Prec, g.Prods[4].Prec = num, eq, open },
		"two that are Paren": func(g *api.Grammar) {
			g.Prods[0].Body, g.Prods[0].Paren = []api.Sym{tok(open), srt(e), tok(open)}, true
		},
		"Paren that is not set":  func(g *api.Grammar) { g.Prods[4].Paren = false },
		"Paren of another sort":  func(g *api.Grammar) { g.Prods[4].Sort, g.Prods[4].Body[1] = l, srt(l) },
		"sorts out of order":     func(g *api.Grammar) { slices.Reverse(g.Prods) },
		"a sort that is nowhere": func(g *api.Grammar) { g.Sorts = append(g.Sorts, "Z") },
		"rules without Skip":     func(g *api.Grammar) { g.Rules[ws].Kind = api.Comment },
		"levels in another order": func(g *api.Grammar) {
			slices.Reverse(g.Levels)
		},
		"all in one level": func(g *api.Grammar) {
			g.Levels = []api.Level{{Side: api.Never, Rules: []int{pow, eq, shut, open, times, minus, plus, num}}}
		},
	} {
		checked(t, what, with(sums(), change), gram.Fault{})
	}
}

// P17.1: all hints and sides.
func TestCheckOfHintsAndSides(t *testing.T) {
	for n := -3; n < 300; n++ {
		g := sums()
		g.Prods[0].Hints[1] = n
		want := gram.Fault{Why: api.ErrArg, List: gram.Prods}
		if n >= 0 && n <= 3 {
			want = gram.Fault{}
		}
		checked(t, fmt.Sprintf("the hint %d", n), g, want)
		g = sums()
		g.Levels[2].Side = n
		want = gram.Fault{Why: api.ErrArg, List: gram.Levels, At: 2}
		if n >= 1 && n <= 3 {
			want = gram.Fault{}
		}
		checked(t, fmt.Sprintf("the side %d", n), g, want)
	}
}

// P17.1: the faults of rules are those of rules.Check.
func TestCheckOfRules(t *testing.T) {
	for _, c := range []struct {
		rule api.Rule
		err  api.Errno
	}{
		{api.Rule{Name: "9", Regex: "x"}, api.ErrName}, {api.Rule{Name: "NUM", Regex: "x"}, api.ErrTwice}, {api.Rule{Name: "X", Kind: 3, Regex: "x"}, api.ErrArg}, {api.Rule{Name: "X", Kind: -1, Regex: "x"}, api.ErrArg},
		{api.Rule{Name: "X", Regex: "("}, api.ErrRegex}, {api.Rule{Name: "X", Regex: strings.Repeat("a", 201)}, api.ErrBig}, {api.Rule{Name: "X", Regex: "x*"}, api.ErrEmptied}, {api.Rule{Name: "X", Kind: api.Skip, Regex: "~"}, api.ErrEmptied},
	} {
		for at := 1; at <= 10; at++ {
			g := sums()
			g.Rules = slices.Insert(g.Rules, at, c.rule)
			checked(t, fmt.Sprint(c), g, gram.Fault{Why: c.err, List: gram.Rules, At: at})
		}
	}
	for _, count := range []int{60, 61, 500} {
		g := sums()
		g.Sorts[0] = "9"
		for i := len(g.Rules); i < count; i++ {
			g.Rules = append(g.Rules, api.Rule{Name: fmt.Sprintf("R%d", i), Regex: "r"})
		}
		want := gram.Fault{Why: api.ErrBig, List: gram.Rules, At: count}
		if count == 60 {
			want = gram.Fault{Why: api.ErrName, List: gram.Sorts}
		}
		checked(t, fmt.Sprintf("%d rules", count), g, want)
	}
}

// P17.1: names of sorts that are none, or are there already.
func TestCheckOfSorts(t *testing.T) {
	g := sums()
	g.Sorts = several("S", 20)
	checked(t, "20 sorts", g, gram.Fault{})
	for at := range g.Sorts {
		for _, name := range noNames() {
			checked(t, fmt.Sprintf("%.50q", name), with(g, func(g *api.Grammar) { g.Sorts[at] = name }), gram.Fault{Why: api.ErrName, List: gram.Sorts, At: at})
		}
		for _, rule := range g.Rules {
			checked(t, "a sort "+rule.Name, with(g, func(g *api.Grammar) { g.Sorts[at] = rule.Name }), gram.Fault{Why: api.ErrTwice, List: gram.Sorts, At: at})
		}
		for other := range at {
			twice := gram.Fault{Why: api.ErrTwice, List: gram.Sorts, At: at} // the later one of both
			checked(t, "a name twice", with(g, func(g *api.Grammar) { g.Sorts[at] = g.Sorts[other] }), twice)
			checked(t, "a name twice", with(g, func(g *api.Grammar) { g.Sorts[other] = g.Sorts[at] }), twice)
		}
	}
}

// P17.1: as many sorts as may be, and more.
func TestCheckOfManySorts(t *testing.T) {
	for _, count := range []int{299, 300, 301, 302, 1000} {
		big := gram.Fault{Why: api.ErrBig, List: gram.Sorts, At: count}
		for what, change := range map[string]func(g *api.Grammar){
			"valid": func(g *api.Grammar) {}, "no name": func(g *api.Grammar) { g.Sorts[0] = "9" }, "twice": func(g *api.Grammar) { g.Sorts[count-1] = "S0" },
		} {
			g := sums()
			g.Sorts, g.Start = several("S", count), count-1
			change(&g)
			want := big
			switch {
			case count <= 300 && what == "valid":
				want = gram.Fault{}
			case count <= 300 && what == "no name":
				want = gram.Fault{Why: api.ErrName, List: gram.Sorts}
			case count <= 300:
				want = gram.Fault{Why: api.ErrTwice, List: gram.Sorts, At: count - 1}
			}
			checked(t, fmt.Sprintf("%d sorts, %s", count, what), g, want)
		}
	}
}

// wrongProds returns productions of sums with one fault each, and what it is.
func wrongProds() map[string]struct {
	change func(p *api.Prod)
	err    api.Errno
} {
	type wrong = struct {
		change func(p *api.Prod)
		err    api.Errno
	}
	all := map[string]wrong{}
	for _, n := range outside(2) {
		all[fmt.Sprintf("sort %d", n)] = wrong{func(p *api.Prod) { p.Sort = n }, api.ErrNobody}
		for at := range 3 {
			all[fmt.Sprintf("symbol %d, sort %d", at, n)] = wrong{func(p *api.Prod) { p.Body[at] = srt(n) }, api.ErrNobody}
		}
	}
	for _, n := range append(outside(10), ws, note) {
		for at := range 3 {
			all[fmt.Sprintf("symbol %d, rule %d", at, n)] = wrong{func(p *api.Prod) { p.Body[at] = tok(n) }, api.ErrNobody}
		}
		if n != -1 {
			all[fmt.Sprintf("prec %d", n)] = wrong{func(p *api.Prod) { p.Prec = n }, api.ErrNobody}
		}
	}
	for _, name := range noNames() {
		all[fmt.Sprintf("con %.50q", name)] = wrong{func(p *api.Prod) { p.Con = name }, api.ErrName}
	}
	for _, n := range outside(4) {
		for at := range 2 {
			all[fmt.Sprintf("hint %d is %d", at, n)] = wrong{func(p *api.Prod) { p.Hints[at] = n }, api.ErrArg}
		}
	}
	for count := range 20 {
		if count != 2 {
			all[fmt.Sprintf("%d hints", count)] = wrong{func(p *api.Prod) { p.Hints = make([]int, count) }, api.ErrArg}
		}
		if count > 0 {
			all[fmt.Sprintf("no symbols, %d hints", count)] = wrong{func(p *api.Prod) { p.Body, p.Hints = nil, make([]int, count) }, api.ErrArg}
		}
		if count > 12 {
			all[fmt.Sprintf("%d symbols", count)] = wrong{func(p *api.Prod) { p.Body, p.Hints = slices.Repeat([]api.Sym{srt(e)}, count), make([]int, count-1) }, api.ErrBig}
		}
	}
	for what, body := range map[string][]api.Sym{
		"paren, three sorts": {srt(e), srt(e), srt(e)}, "paren, three tokens": {tok(e), tok(e), tok(e)}, "paren, another sort": {tok(open), srt(l), tok(shut)}, "paren, a sort first": {srt(e), srt(e), tok(shut)},
		"paren, a sort last": {tok(open), srt(e), srt(e)}, "paren, two symbols": {tok(open), srt(e)}, "paren, four symbols": {tok(open), srt(e), tok(shut), tok(shut)}, "paren, no symbols": {}, "paren, one symbol": {srt(e)},
	} {
		all[what] = wrong{func(p *api.Prod) { p.Paren, p.Body, p.Hints = true, body, make([]int, max(0, len(body)-1)) }, api.ErrParen}
	}
	all["con of the first one"] = wrong{func(p *api.Prod) { p.Con = "Add" }, api.ErrTwice}
	return all
}

// P17.1: each fault of productions by itself, at each place.
func TestCheckOfProds(t *testing.T) {
	fresh := sums().Prods[0]
	fresh.Con = "Fresh"
	for what, c := range wrongProds() {
		for at := 1; at <= len(sums().Prods); at++ {
			g := sums()
			g.Prods = slices.Insert(g.Prods, at, fresh)
			g = with(g, func(g *api.Grammar) { c.change(&g.Prods[at]) })
			checked(t, what, g, gram.Fault{Why: c.err, List: gram.Prods, At: at})
		}
	}
}

// P17.1: bodies of all lengths, with all numbers of hints.
func TestCheckOfNumbersOfHints(t *testing.T) {
	for symbols := range 15 {
		for hints := range 16 {
			g := sums()
			g.Prods[3].Body, g.Prods[3].Hints = slices.Repeat([]api.Sym{tok(num)}, symbols), make([]int, hints)
			want := gram.Fault{}
			switch {
			case symbols > 12:
				want = gram.Fault{Why: api.ErrBig, List: gram.Prods, At: 3}
			case symbols == 0 && hints > 0, symbols > 0 && hints != symbols-1:
				want = gram.Fault{Why: api.ErrArg, List: gram.Prods, At: 3}
			}
			checked(t, fmt.Sprintf("%d symbols, %d hints", symbols, hints), g, want)
		}
	}
}

// P17.1: the later one of two productions with one Con is invalid, whatever their sorts.
func TestCheckOfConsThatAreThereTwice(t *testing.T) {
	for at := range sums().Prods {
		for other := range at {
			g := sums()
			g.Prods[other].Con = g.Prods[at].Con
			checked(t, "a Con twice", g, gram.Fault{Why: api.ErrTwice, List: gram.Prods, At: at})
		}
	}
}

// P17.1: as many productions as may be, and more.
func TestCheckOfManyProds(t *testing.T) {
	for _, count := range []int{199, 200, 201, 202, 1000} {
		g := sums()
		g.Prods = nil
		for _, name := range several("C", count) {
			g.Prods = append(g.Prods, api.Prod{Con: name, Prec: -1})
		}
		broken := clone(g)
		broken.Prods[0].Sort, broken.Prods[count-1].Con = 2, "9"
		twice := clone(g)
		twice.Prods[count-1].Con = "C0"
		want := [3]gram.Fault{{}, {Why: api.ErrNobody, List: gram.Prods}, {Why: api.ErrTwice, List: gram.Prods, At: count - 1}}
		if count > 200 {
			big := gram.Fault{Why: api.ErrBig, List: gram.Prods, At: count}
			want = [3]gram.Fault{big, big, big}
		}
		for i, one := range []api.Grammar{g, broken, twice} {
			checked(t, fmt.Sprintf("%d productions", count), one, want[i])
		}
	}
}

// P17.1: of several faults of one production, the one that the chapter mentions first counts.
func TestOrderOfFaultsOfAProd(t *testing.T) {
	faults := []struct {
		err    api.Errno
		change func(p *api.Prod)
	}{
		{api.ErrNobody, func(p *api.Prod) { p.Sort = 2 }},
		{api.ErrName, func(p *api.Prod) { p.Con = "9" }},
		{api.ErrBig, func(p *api.Prod) { p.Body, p.Hints = slices.Repeat([]api.Sym{tok(num)}, 13), make([]int, 12) }},
		{api.ErrArg, func(p *api.Prod) { p.Hints = append(p.Hints, 0) }},
		{api.ErrTwice, func(p *api.Prod) { p.Con = "Add" }},
		{api.ErrNobody, func(p *api.Prod) { p.Body[len(p.Body)-1] = tok(ws) }},
		{api.ErrArg, func(p *api.Prod) { p.Hints[0] = 4 }},
		{api.ErrNobody, func(p *api.Prod) { p.Prec = 10 }},
		{api.ErrParen, func(p *api.Prod) { p.Paren = true }},
	}
	order := []int{4, 1, 0, 2, 3, 5, 6, 7, 8} // so that no change undoes another one, but for the Con, of which the fault that is no name counts
	for set := 1; set < 1<<len(faults); set++ {
		g := sums()
		for _, i := range order {
			if set>>i&1 == 1 {
				faults[i].change(&g.Prods[1])
			}
		}
		first := 0
		for set>>first&1 == 0 {
			first++
		}
		checked(t, fmt.Sprintf("the faults %09b", set), g, gram.Fault{Why: faults[first].err, List: gram.Prods, At: 1})
	}
}

// P17.1: levels with one fault or several.
func TestCheckOfLevels(t *testing.T) {
	for _, c := range []struct {
		side  int
		rules []int
		err   api.Errno
	}{
		{api.Left, []int{num}, api.OK}, {api.Right, []int{num, open, shut}, api.OK}, {api.Never, []int{shut, num}, api.OK},
		{api.NoSide, []int{num}, api.ErrArg}, {4, []int{num}, api.ErrArg}, {-1, []int{num}, api.ErrArg}, {1 << 32, []int{num}, api.ErrArg}, {math.MinInt, []int{num}, api.ErrArg},
		{api.Left, nil, api.ErrArg}, {api.Right, []int{}, api.ErrArg}, {api.NoSide, nil, api.ErrArg},
		{api.NoSide, []int{99}, api.ErrArg}, {4, []int{plus}, api.ErrArg},
		{api.Left, []int{ws}, api.ErrNobody}, {api.Left, []int{note}, api.ErrNobody}, {api.Left, []int{10}, api.ErrNobody}, {api.Left, []int{-1}, api.ErrNobody}, {api.Left, []int{math.MaxInt}, api.ErrNobody},
		{api.Left, []int{num, open, -1}, api.ErrNobody}, {api.Left, []int{-1, num}, api.ErrNobody}, {api.Left, []int{num, -1, shut}, api.ErrNobody},
		{api.Left, []int{plus}, api.ErrTwice}, {api.Left, []int{minus}, api.ErrTwice}, {api.Left, []int{eq}, api.ErrTwice}, {api.Left, []int{pow}, api.ErrTwice}, {api.Left, []int{num, times}, api.ErrTwice},
		{api.Left, []int{num, num}, api.ErrTwice}, {api.Right, []int{num, open, num}, api.ErrTwice}, {api.Never, []int{num, shut, open, open}, api.ErrTwice},
		{api.Left, []int{-1, plus}, api.ErrNobody}, {api.Left, []int{plus, -1}, api.ErrTwice}, {api.Left, []int{num, num, ws}, api.ErrTwice}, {api.Left, []int{num, ws, num}, api.ErrNobody}, {api.Left, []int{ws, ws}, api.ErrNobody},
	} {
		g := sums()
		g.Levels = append(g.Levels, api.Level{Side: c.side, Rules: c.rules})
		want := gram.Fault{Why: c.err, List: gram.Levels, At: 4}
		if c.err == api.OK {
			want = gram.Fault{}
		}
		checked(t, fmt.Sprint(c), g, want)
		if c.err != api.ErrTwice {
			for at := range 4 {
				front := sums()
				front.Levels = slices.Insert(front.Levels, at, api.Level{Side: c.side, Rules: c.rules})
				if want != (gram.Fault{}) {
					want.At = at
				}
				checked(t, fmt.Sprint(c, " at ", at), front, want)
			}
		}
	}
}

// P17.1: a rule in two levels is found at the later one.
func TestCheckOfARuleInTwoLevels(t *testing.T) {
	g := sums()
	g.Levels = nil
	for _, rule := range []int{num, plus, minus, times, open} {
		g.Levels = append(g.Levels, api.Level{Side: api.Left, Rules: []int{rule}})
	}
	for at := range g.Levels {
		for other := range at {
			twice := with(g, func(g *api.Grammar) { g.Levels[other].Rules = append(g.Levels[other].Rules, g.Levels[at].Rules[0]) })
			checked(t, "a rule twice", twice, gram.Fault{Why: api.ErrTwice, List: gram.Levels, At: at})
		}
	}
}

// manyLevels returns a grammar with a level for each of so many rules.
func manyLevels(count int) api.Grammar {
	g := api.Grammar{Sorts: []string{"S"}}
	for i, name := range several("R", 60) {
		g.Rules = append(g.Rules, api.Rule{Name: name, Regex: "r"})
		if i < count {
			g.Levels = append(g.Levels, api.Level{Side: api.Left, Rules: []int{i}})
		}
	}
	return g
}

// P17.1: as many levels as may be, and more.
func TestCheckOfManyLevels(t *testing.T) {
	for _, count := range []int{59, 60} {
		checked(t, fmt.Sprintf("%d levels", count), manyLevels(count), gram.Fault{})
	}
	g := manyLevels(1)
	for i := 1; i < 60; i++ {
		g.Levels[0].Rules = append(g.Levels[0].Rules, i)
	}
	checked(t, "all rules in one level", g, gram.Fault{})
	for _, level := range []api.Level{{}, {Side: api.Left}, {Side: api.Left, Rules: []int{59}}, {Side: api.Left, Rules: []int{0}}, {Side: api.Left, Rules: []int{60}}} {
		g := manyLevels(60)
		for range 3 {
			g.Levels = append(g.Levels, level)
			checked(t, fmt.Sprintf("%d levels, %v", len(g.Levels), level), g, gram.Fault{Why: api.ErrArg, List: gram.Levels, At: 60})
		}
		g.Levels[59].Rules = []int{0}
		checked(t, "a rule twice ahead of too many levels", g, gram.Fault{Why: api.ErrTwice, List: gram.Levels, At: 59})
	}
}

// P17.1: starts that do not exist.
func TestCheckOfStart(t *testing.T) {
	for _, start := range append(outside(2), 9) {
		g := sums()
		g.Start = start
		checked(t, fmt.Sprintf("start %d", start), g, gram.Fault{Why: api.ErrNobody, List: gram.Start})
	}
	checked(t, "nothing", api.Grammar{}, gram.Fault{Why: api.ErrNobody, List: gram.Start})
	checked(t, "rules only", api.Grammar{Rules: sums().Rules}, gram.Fault{Why: api.ErrNobody, List: gram.Start})
}

// P17.1: of faults in several lists, that in the first one counts.
func TestOrderOfLists(t *testing.T) {
	faults := []struct {
		want   gram.Fault
		change func(g *api.Grammar)
	}{
		{gram.Fault{Why: api.ErrRegex, List: gram.Rules, At: 9}, func(g *api.Grammar) { g.Rules[pow].Regex = "(" }},
		{gram.Fault{Why: api.ErrName, List: gram.Sorts, At: 1}, func(g *api.Grammar) { g.Sorts[1] = "9" }},
		{gram.Fault{Why: api.ErrParen, List: gram.Prods, At: 6}, func(g *api.Grammar) { g.Prods[6].Paren = true }},
		{gram.Fault{Why: api.ErrArg, List: gram.Levels, At: 3}, func(g *api.Grammar) { g.Levels[3].Rules = nil }},
		{gram.Fault{Why: api.ErrNobody, List: gram.Start}, func(g *api.Grammar) { g.Start = 2 }},
	}
	for set := 1; set < 1<<len(faults); set++ {
		g := sums()
		var want gram.Fault
		for i, f := range slices.Backward(faults) {
			if set>>i&1 == 1 {
				f.change(&g)
				want = f.want
			}
		}
		checked(t, fmt.Sprintf("the lists %05b", set), g, want)
	}
}

// P17.1: of several invalid elements of a list the first one counts, whatever is wrong with it.
func TestTheFirstInvalidElementCounts(t *testing.T) {
	fresh := sums().Prods[0]
	fresh.Con = "Fresh"
	for what, c := range wrongProds() {
		for _, err := range []func(p *api.Prod){func(p *api.Prod) { p.Sort = -1 }, func(p *api.Prod) { p.Prec = ws }, func(p *api.Prod) { p.Con = "" }} {
			g := sums()
			g.Prods = slices.Insert(g.Prods, 1, fresh)
			g = with(g, func(g *api.Grammar) { c.change(&g.Prods[1]); err(&g.Prods[4]) })
			checked(t, what, g, gram.Fault{Why: c.err, List: gram.Prods, At: 1})
		}
	}
	g := sums()
	g.Levels[1].Rules, g.Levels[2].Side = []int{eq}, 0
	checked(t, "two levels", g, gram.Fault{Why: api.ErrTwice, List: gram.Levels, At: 1})
	g.Sorts = []string{"S", "S", "9"}
	checked(t, "two sorts", g, gram.Fault{Why: api.ErrTwice, List: gram.Sorts, At: 1})
	g.Sorts = []string{"9", "9"}
	checked(t, "no name twice", g, gram.Fault{Why: api.ErrName, List: gram.Sorts})
}

// P17.1: a production of all short bodies, with all that counts for it.
func TestCheckOfAllShortBodies(t *testing.T) {
	base := api.Grammar{Rules: []api.Rule{{Name: "A", Regex: "a"}, {Name: "WS", Kind: api.Skip, Regex: " "}}, Sorts: []string{"S", "T"}, Prods: []api.Prod{{Con: "One", Prec: -1}}}
	symbols := []api.Sym{tok(0), tok(1), tok(2), srt(0), srt(1), srt(2)}
	bodies := [][]api.Sym{nil}
	for i := 0; i < len(bodies) && len(bodies[i]) < 3; i++ {
		for _, s := range symbols {
			bodies = append(bodies, append(slices.Clone(bodies[i]), s))
		}
	}
	for i, body := range bodies {
		for _, paren := range []bool{false, true} {
			for sort := range 2 {
				for _, hints := range [][]int{make([]int, max(0, len(body)-1)), slices.Repeat([]int{4}, max(0, len(body)-1)), {0}} {
					g := clone(base)
					g.Prods = append(g.Prods, api.Prod{Sort: sort, Con: "Two", Body: body, Paren: paren, Prec: i%3 - 1, Hints: hints})
					checked(t, fmt.Sprint(g.Prods[1]), g, faultOf(g))
				}
			}
		}
	}
}

// P17.1: many grammars held against a model.
func TestCheckOfManyGrammars(t *testing.T) {
	met := map[gram.Fault]int{}
	for i, g := range samples(20000) {
		want := faultOf(g)
		if got := gram.Check(g); got != want {
			t.Fatalf("%+v, want %+v: %s", got, want, brief(g))
		}
		if i%5 == 0 && want.Why != api.OK {
			t.Fatalf("a sample is not valid, but has %+v: %s", want, brief(g))
		}
		want.At = 0
		met[want]++
	}
	for list, errs := range map[int][]api.Errno{
		gram.Rules: {api.ErrName, api.ErrTwice, api.ErrArg, api.ErrRegex, api.ErrEmptied}, gram.Sorts: {api.ErrName, api.ErrTwice},
		gram.Prods: {api.ErrNobody, api.ErrName, api.ErrBig, api.ErrArg, api.ErrTwice, api.ErrParen}, gram.Levels: {api.ErrArg, api.ErrNobody, api.ErrTwice}, gram.Start: {api.ErrNobody}, 0: {api.OK},
	} {
		for _, err := range errs {
			if met[gram.Fault{Why: err, List: list}] < 20 {
				t.Errorf("the samples have the error %d of the list %d only %d times", err, list, met[gram.Fault{Why: err, List: list}])
			}
		}
	}
}

// P17.3: a grammar without levels has the faults of the other lists only.
func TestAGrammarWithoutItsLevels(t *testing.T) {
	checked(t, "sums", with(sums(), func(g *api.Grammar) { g.Levels = nil }), gram.Fault{})
	for _, g := range samples(10000) {
		before := gram.Check(g)
		bare := g
		bare.Levels = nil
		got := gram.Check(bare)
		if before == (gram.Fault{}) && got != before {
			t.Fatalf("valid, but not without levels: %+v, %s", got, brief(g))
		}
		if before.List != gram.Levels && got != before || got.List == gram.Levels {
			t.Fatalf("%+v, without levels %+v: %s", before, got, brief(g))
		}
	}
}
