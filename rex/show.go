package rex

import (
	"strings"

	"bosket/api"
	"bosket/byteset"
	"bosket/escape"
)

// Bytes that stand for something else than themselves if no backslash is ahead of them.
const (
	outsideSets = `/()[]|*+?."~`
	insideSets  = `/]^-"`
)

// repeats are the signs of Star, Plus and Opt, in the order of these kinds.
const repeats = "*+?"

// longestSet is how many bytes a set may have before its complement is written instead.
const longestSet = 128

// How strongly an expression holds together: one that is weaker than its place demands stands in parentheses.
const (
	weak   = 0 // an Alt
	firm   = 1 // a Cat
	strong = 2
)

// Show returns the text of an expression. It is empty if the expression is not valid.
func Show(r api.Regex) string {
	if Check(r) != api.OK {
		return ""
	}
	w := writer{r: r}
	w.operand(len(r)-1, weak)
	return w.text.String()
}

// A writer writes the expressions that end at the pieces of r.
type writer struct {
	r    api.Regex
	text strings.Builder
}

// operand writes the expression that ends at an index, at a place that demands a strength.
func (w *writer) operand(at, demanded int) {
	if strength(w.r[at].Kind) >= demanded {
		w.expression(at)
		return
	}
	w.text.WriteByte('(')
	w.expression(at)
	w.text.WriteByte(')')
}

// expression writes the expression that ends at an index.
func (w *writer) expression(at int) {
	switch p := w.r[at]; p.Kind {
	case api.None:
		w.text.WriteByte('~')
	case api.One:
		w.text.WriteString(setText(p.Set))
	case api.Cat:
		w.operand(Start(w.r, at-1)-1, firm)
		w.operand(at-1, strong)
	case api.Alt:
		w.operand(Start(w.r, at-1)-1, weak)
		w.text.WriteByte('|')
		w.operand(at-1, firm)
	default:
		w.operand(at-1, strong)
		w.text.WriteByte(repeats[p.Kind-api.Star])
	}
}

func strength(kind int) int {
	switch kind {
	case api.Alt:
		return weak
	case api.Cat:
		return firm
	}
	return strong
}

// setText returns the text of a One.
func setText(s api.Set) string {
	n := byteset.Len(s)
	switch {
	case s == byteset.Full():
		return "."
	case n == 1:
		return escape.Byte(byte(byteset.First(s)), outsideSets)
	case n > longestSet:
		return "[^" + spansText(byteset.Not(s)) + "]"
	}
	return "[" + spansText(s) + "]"
}

// spansText returns the texts of all spans of a set.
func spansText(s api.Set) string {
	var b strings.Builder
	for _, span := range byteset.Spans(s) {
		b.WriteString(escape.Byte(span.From, insideSets))
		if span.To != span.From {
			b.WriteByte('-')
			b.WriteString(escape.Byte(span.To, insideSets))
		}
	}
	return b.String()
}
