package gram

import (
	"slices"

	"bosket/api"
	"bosket/escape"
	"bosket/rules"
)

// Lists of a grammar in which a fault is found.
const (
	Rules  = 1
	Sorts  = 2
	Prods  = 3
	Levels = 4
	Start  = 5
)

// noPrec is the Prec of a production that names no rule.
const noPrec = -1

// Fault is what is wrong with a grammar: why, in which list, and with which element of it.
type Fault struct {
	Why  api.Errno
	List int
	At   int
}

// Check returns the first fault of a grammar, list by list; a zero Fault if it is valid.
func Check(g api.Grammar) Fault {
	if at, err := rules.Check(g.Rules); err != api.OK {
		return Fault{Why: err, List: Rules, At: at}
	}
	if at, err := checkSorts(g); err != api.OK {
		return Fault{Why: err, List: Sorts, At: at}
	}
	if at, err := checkProds(g); err != api.OK {
		return Fault{Why: err, List: Prods, At: at}
	}
	if at, err := checkLevels(g); err != api.OK {
		return Fault{Why: err, List: Levels, At: at}
	}
	if !Has(g, ofSort(g.Start)) {
		return Fault{Why: api.ErrNobody, List: Start}
	}
	return Fault{}
}

// checkSorts returns the first invalid sort and what is wrong with it. ErrBig, with the number of sorts: there are more than MaxNames.
func checkSorts(g api.Grammar) (int, api.Errno) {
	if len(g.Sorts) > api.MaxNames {
		return len(g.Sorts), api.ErrBig
	}
	for at, name := range g.Sorts {
		if err := escape.Check(name); err != api.OK {
			return at, err
		}
		if s, _ := Find(g, name); s != ofSort(at) { // it is this sort unless a rule or an earlier sort has the name
			return at, api.ErrTwice
		}
	}
	return len(g.Sorts), api.OK
}

// checkProds returns the first invalid production and what is wrong with it. ErrBig, with the number of productions: there are more than MaxRules.
func checkProds(g api.Grammar) (int, api.Errno) {
	if len(g.Prods) > api.MaxRules {
		return len(g.Prods), api.ErrBig
	}
	for at := range g.Prods {
		if err := checkProd(g, at); err != api.OK {
			return at, err
		}
	}
	return len(g.Prods), api.OK
}

// checkProd returns what is wrong first with a production.
func checkProd(g api.Grammar, at int) api.Errno {
	p := g.Prods[at]
	switch {
	case !Has(g, ofSort(p.Sort)):
		return api.ErrNobody
	case !escape.Name(p.Con):
		return api.ErrName
	case len(p.Body) > api.MaxKids:
		return api.ErrBig
	case len(p.Hints) != max(len(p.Body)-1, 0):
		return api.ErrArg
	case Con(g, p.Con) < at:
		return api.ErrTwice
	case slices.ContainsFunc(p.Body, func(s api.Sym) bool { return !Has(g, s) }):
		return api.ErrNobody
	case slices.ContainsFunc(p.Hints, func(hint int) bool { return !isHint(hint) }):
		return api.ErrArg
	case p.Prec != noPrec && !Has(g, api.Sym{N: p.Prec}):
		return api.ErrNobody
	case p.Paren && !Encloses(p):
		return api.ErrParen
	}
	return api.OK
}

func isHint(hint int) bool {
	return hint == api.Plain || hint == api.Blank || hint == api.Break || hint == api.Line
}

// checkLevels returns the first invalid level and what is wrong with it.
func checkLevels(g api.Grammar) (int, api.Errno) {
	var before []int // all rules of the levels so far
	for at, level := range g.Levels {
		if !isSide(level.Side) || len(level.Rules) == 0 || at >= api.MaxTokens {
			return at, api.ErrArg
		}
		for _, rule := range level.Rules {
			if !Has(g, api.Sym{N: rule}) {
				return at, api.ErrNobody
			}
			if slices.Contains(before, rule) {
				return at, api.ErrTwice
			}
			before = append(before, rule)
		}
	}
	return len(g.Levels), api.OK
}

func isSide(side int) bool {
	return side == api.Left || side == api.Right || side == api.Never
}
