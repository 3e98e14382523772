package gram_test

import (
	"fmt"
	"math"
	"reflect"
	"regexp"
	"slices"
	"strings"
	"testing"

	"bosket/api"
	"bosket/gram"
	"bosket/rules"
)

func tok(n int) api.Sym { return api.Sym{N: n} }

func srt(n int) api.Sym { return api.Sym{Sort: true, N: n} }

// Numbers of the rules and sorts of sums.
const (
	num, plus, minus, times, open, shut, ws, note, eq, pow = 0, 1, 2, 3, 4, 5, 6, 7, 8, 9

	e, l = 0, 1
)

// sums is a valid grammar that has something of everything.
func sums() api.Grammar {
	return api.Grammar{
		Rules: []api.Rule{
			{Name: "NUM", Regex: "[0-9]+"}, {Name: "PLUS", Regex: `\+`}, {Name: "MINUS", Regex: `\-`}, {Name: "TIMES", Regex: `\*`}, {Name: "OPEN", Regex: `\(`},
			{Name: "SHUT", Regex: `\)`}, {Name: "WS", Kind: api.Skip, Regex: "[ \\n]+"}, {Name: "NOTE", Kind: api.Comment, Regex: "#[a-z]*"}, {Name: "EQ", Regex: "="}, {Name: "POW", Regex: `\^`},
		},
		Sorts: []string{"E", "L"},
		Prods: []api.Prod{
			{Sort: e, Con: "Add", Body: []api.Sym{srt(e), tok(plus), srt(e)}, Prec: -1, Hints: []int{api.Blank, api.Break}},
			{Sort: e, Con: "Mul", Body: []api.Sym{srt(e), tok(times), srt(e)}, Prec: -1, Hints: []int{api.Plain, api.Plain}},
			{Sort: e, Con: "Neg", Body: []api.Sym{tok(minus), srt(e)}, Prec: times, Hints: []int{api.Plain}},
			{Sort: e, Con: "Num", Body: []api.Sym{tok(num)}, Prec: -1},
			{Sort: e, Con: "Group", Body: []api.Sym{tok(open), srt(e), tok(shut)}, Paren: true, Prec: -1, Hints: []int{api.Plain, api.Plain}},
			{Sort: l, Con: "Nil", Prec: -1},
			{Sort: l, Con: "Cons", Body: []api.Sym{srt(l), srt(e)}, Prec: -1, Hints: []int{api.Line}},
		},
		Levels: []api.Level{{Side: api.Never, Rules: []int{eq}}, {Side: api.Left, Rules: []int{plus, minus}}, {Side: api.Left, Rules: []int{times}}, {Side: api.Right, Rules: []int{pow}}},
		Start:  l,
	}
}

// with returns a grammar that was changed by the given call.
func with(g api.Grammar, change func(g *api.Grammar)) api.Grammar {
	g = clone(g)
	change(&g)
	return g
}

// clone returns a grammar that shares no list with the given one.
func clone(g api.Grammar) api.Grammar {
	g.Rules, g.Sorts, g.Prods, g.Levels = slices.Clone(g.Rules), slices.Clone(g.Sorts), slices.Clone(g.Prods), slices.Clone(g.Levels)
	for i, p := range g.Prods {
		g.Prods[i].Body, g.Prods[i].Hints = slices.Clone(p.Body), slices.Clone(p.Hints)
	}
	for i, level := range g.Levels {
		g.Levels[i].Rules = slices.Clone(level.Rules)
	}
	return g
}

// equal holds two grammars against each other, without the help of the package.
func equal(a, b api.Grammar) bool { return reflect.DeepEqual(full(a), full(b)) }

// full returns a copy of a grammar in which no list is nil.
func full(g api.Grammar) api.Grammar {
	g.Rules, g.Sorts, g.Prods, g.Levels = append([]api.Rule{}, g.Rules...), append([]string{}, g.Sorts...), append([]api.Prod{}, g.Prods...), append([]api.Level{}, g.Levels...)
	for i, p := range g.Prods {
		g.Prods[i].Body, g.Prods[i].Hints = append([]api.Sym{}, p.Body...), append([]int{}, p.Hints...)
	}
	for i, level := range g.Levels {
		g.Levels[i].Rules = append([]int{}, level.Rules...)
	}
	return g
}

// brief returns what matters of a grammar, for messages.
func brief(g api.Grammar) string { return fmt.Sprintf("%.2000s", fmt.Sprintf("%+v", g)) }

// checked holds what Check returns against what it is to be.
func checked(t *testing.T, what string, g api.Grammar, want gram.Fault) {
	t.Helper()
	if got := gram.Check(g); got != want {
		t.Errorf("%s: %+v, want %+v", what, got, want)
	}
}

// outside returns numbers that are no index of a list of that length.
func outside(length int) []int {
	return []int{-1, -2, math.MinInt, math.MinInt + 1, -1 << 31, -1 << 32, length, length + 1, 1<<32 + length - 1, 1 << 31, 1 << 32, math.MaxInt, math.MaxInt - 1}
}

// noNames are texts that are no names.
func noNames() []string {
	return []string{
		"", "0", "9a", " ", " a", "a ", "a b", "a\n", "a-b", "a.b", "?", "a?", "é", "aé", "a\x00", "\x00", "\xff", "=",
		strings.Repeat("a", 41), strings.Repeat("a", 100000),
	}
}

// several returns so many names, none of them twice.
func several(prefix string, count int) []string {
	var l []string
	for i := range count {
		l = append(l, fmt.Sprintf("%s%d", prefix, i))
	}
	return l
}

// A source tells numbers without a plain rule, always the same ones.
type source uint64

func (x *source) below(n int) int {
	*x = *x*6364136223846793005 + 1442695040888963407
	return int(uint64(*x)>>33) % n
}

// valid returns a valid grammar.
func valid(x *source) api.Grammar {
	var g api.Grammar
	var usable []api.Sym
	for i := range 1 + x.below(6) {
		kind := max(0, x.below(5)-2)
		if kind == api.Main {
			usable = append(usable, tok(i))
		}
		g.Rules = append(g.Rules, api.Rule{Name: fmt.Sprintf("T%d", i), Kind: kind, Regex: []string{"a", "b+", "[c-d]", "e|f", " +"}[x.below(5)]})
	}
	tokens := slices.Clone(usable)
	for i := range 1 + x.below(4) {
		usable = append(usable, srt(i))
		g.Sorts = append(g.Sorts, fmt.Sprintf("S%d", i))
	}
	for i := range x.below(8) {
		p := api.Prod{Sort: x.below(len(g.Sorts)), Con: fmt.Sprintf("C%d", i), Prec: -1}
		for range x.below(6) {
			p.Body = append(p.Body, usable[x.below(len(usable))])
		}
		if len(tokens) > 0 && x.below(3) == 0 {
			p.Paren = x.below(3) > 0
			p.Body = []api.Sym{tokens[x.below(len(tokens))], srt(p.Sort), tokens[x.below(len(tokens))]}
			p.Prec = tokens[x.below(len(tokens))].N
		}
		for range len(p.Body) - 1 {
			p.Hints = append(p.Hints, x.below(4))
		}
		g.Prods = append(g.Prods, p)
	}
	for _, s := range tokens {
		switch x.below(3) {
		case 0:
			g.Levels = append(g.Levels, api.Level{Side: 1 + x.below(3), Rules: []int{s.N}})
		case 1:
			if len(g.Levels) > 0 {
				level := &g.Levels[x.below(len(g.Levels))]
				level.Rules = append(level.Rules, s.N)
			}
		}
	}
	g.Start = x.below(len(g.Sorts))
	return g
}

// near returns a number that is often an index of a list of that length, or next to one.
func (x *source) near(length int) int { return x.below(length+3) - 1 }

// text returns a name that often is in a grammar, or none at all.
func (x *source) text() string {
	if x.below(6) == 0 {
		return noNames()[x.below(len(noNames()))]
	}
	return fmt.Sprintf("%c%d", "TSCX"[x.below(4)], x.below(6))
}

// sym returns a symbol that often is in a grammar.
func (x *source) sym(g api.Grammar) api.Sym {
	if x.below(2) == 0 {
		return srt(x.near(len(g.Sorts)))
	}
	return tok(x.near(len(g.Rules)))
}

// alter changes one thing of a grammar, mostly so that it is not valid any more.
func alter(x *source, g *api.Grammar) {
	switch n := x.below(100); {
	case n < 3:
		g.Rules[x.below(len(g.Rules))].Regex = []string{"(", "a*", "a", "b"}[x.below(4)]
	case n < 6:
		g.Rules[x.below(len(g.Rules))].Name = x.text()
	case n < 12:
		g.Rules[x.below(len(g.Rules))].Kind = x.near(3)
	case n < 20:
		if len(g.Sorts) > 0 {
			g.Sorts[x.below(len(g.Sorts))] = x.text()
		}
	case n < 23:
		g.Sorts = append(g.Sorts, x.text())
	case n < 26:
		g.Sorts = g.Sorts[:x.below(len(g.Sorts)+1)]
	case n < 34:
		g.Start = x.near(len(g.Sorts))
	case n < 70:
		if len(g.Prods) > 0 {
			alterProd(x, *g, &g.Prods[x.below(len(g.Prods))])
		}
	case n < 80:
		g.Levels = append(g.Levels, api.Level{Side: x.near(4)})
	default:
		if len(g.Levels) > 0 {
			alterLevel(x, *g, &g.Levels[x.below(len(g.Levels))])
		}
	}
}

func alterProd(x *source, g api.Grammar, p *api.Prod) {
	switch x.below(9) {
	case 0:
		p.Sort = x.near(len(g.Sorts))
	case 1:
		p.Con = x.text()
	case 2:
		p.Prec = x.near(len(g.Rules))
	case 3:
		p.Paren = !p.Paren
	case 4:
		p.Body = slices.Repeat([]api.Sym{x.sym(g)}, 11+x.below(3))
		p.Hints = make([]int, 10+x.below(3))
	case 5:
		p.Body = append(p.Body, x.sym(g))
		p.Hints = append(p.Hints, make([]int, x.below(2))...)
	case 6:
		if len(p.Body) > 0 {
			p.Body[x.below(len(p.Body))] = x.sym(g)
		}
	case 7:
		if len(p.Hints) > 0 {
			p.Hints[x.below(len(p.Hints))] = x.near(4)
		}
	case 8:
		p.Hints = make([]int, x.below(4))
	}
}

func alterLevel(x *source, g api.Grammar, level *api.Level) {
	switch x.below(6) {
	case 0:
		level.Side = x.near(4)
	case 1:
		level.Rules = nil
	case 2:
		if len(level.Rules) > 0 {
			level.Rules[x.below(len(level.Rules))] = x.near(len(g.Rules))
		}
	default:
		level.Rules = append(level.Rules, x.near(len(g.Rules)))
	}
}

// samples returns grammars that are valid, and many that are not.
func samples(count int) []api.Grammar {
	x := source(17)
	var all []api.Grammar
	for i := range count {
		g := valid(&x)
		for range i % 5 {
			alter(&x, &g)
		}
		all = append(all, g)
	}
	return all
}

// A claim tells whether something is wrong with an element of a list, and what.
type claim struct {
	bad bool
	err api.Errno
}

var modelName = regexp.MustCompile(`\A[A-Za-z_][A-Za-z_0-9]{0,39}\z`)

// existing returns all symbols for which Has is to hold.
func existing(g api.Grammar) map[api.Sym]bool {
	all := map[api.Sym]bool{}
	for i := range g.Sorts {
		all[api.Sym{Sort: true, N: i}] = true
	}
	for i, rule := range g.Rules {
		all[api.Sym{N: i}] = rule.Kind == 0
	}
	return all
}

// pattern tells of each symbol of a production whether it is a token, its own sort or another one.
func pattern(p api.Prod) string {
	var b strings.Builder
	for _, s := range p.Body {
		switch {
		case !s.Sort:
			b.WriteByte('t')
		case s.N == p.Sort:
			b.WriteByte('s')
		default:
			b.WriteByte('o')
		}
	}
	return b.String()
}

func sortClaims(g api.Grammar, at int) []claim {
	taken := map[string]int{}
	for _, rule := range g.Rules {
		taken[rule.Name]++
	}
	for _, name := range g.Sorts[:at] {
		taken[name]++
	}
	return []claim{{!modelName.MatchString(g.Sorts[at]), api.ErrName}, {taken[g.Sorts[at]] > 0, api.ErrTwice}}
}

func prodClaims(g api.Grammar, at int) []claim {
	p, all, cons := g.Prods[at], existing(g), map[string]int{}
	for _, q := range g.Prods[:at] {
		cons[q.Con]++
	}
	unknown, noHint := 0, 0
	for _, s := range p.Body {
		if !all[s] {
			unknown++
		}
	}
	for _, hint := range p.Hints {
		if hint < 0 || hint > 3 {
			noHint++
		}
	}
	between := 0
	if len(p.Body) > 0 {
		between = len(p.Body) - 1
	}
	return []claim{
		{!all[srt(p.Sort)], api.ErrNobody}, {!modelName.MatchString(p.Con), api.ErrName}, {len(p.Body) > 12, api.ErrBig}, {len(p.Hints) != between, api.ErrArg},
		{cons[p.Con] > 0, api.ErrTwice}, {unknown > 0, api.ErrNobody}, {noHint > 0, api.ErrArg}, {p.Prec != -1 && !all[tok(p.Prec)], api.ErrNobody}, {p.Paren && pattern(p) != "tst", api.ErrParen},
	}
}

func levelClaims(g api.Grammar, at int) []claim {
	level, all, met := g.Levels[at], existing(g), map[int]int{}
	for _, one := range g.Levels[:at] {
		for _, rule := range one.Rules {
			met[rule]++
		}
	}
	claims := []claim{{level.Side < 1 || level.Side > 3, api.ErrArg}, {len(level.Rules) == 0, api.ErrArg}, {at >= 60, api.ErrArg}}
	for _, rule := range level.Rules {
		claims = append(claims, claim{!all[tok(rule)], api.ErrNobody}, claim{met[rule] > 0, api.ErrTwice})
		met[rule]++
	}
	return claims
}

// faultOf returns what Check is to return.
func faultOf(g api.Grammar) gram.Fault {
	if at, err := rules.Check(g.Rules); err != api.OK {
		return gram.Fault{Why: err, List: 1, At: at}
	}
	for i, list := range []struct {
		count, most int
		of          func(g api.Grammar, at int) []claim
	}{{len(g.Sorts), 300, sortClaims}, {len(g.Prods), 200, prodClaims}, {len(g.Levels), math.MaxInt, levelClaims}} {
		if list.count > list.most {
			return gram.Fault{Why: api.ErrBig, List: i + 2, At: list.count}
		}
		for at := range list.count {
			for _, c := range list.of(g, at) {
				if c.bad {
					return gram.Fault{Why: c.err, List: i + 2, At: at}
				}
			}
		}
	}
	if !existing(g)[srt(g.Start)] {
		return gram.Fault{Why: api.ErrNobody, List: 5}
	}
	return gram.Fault{}
}
