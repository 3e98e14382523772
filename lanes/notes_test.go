package lanes_test

import (
	"slices"
	"strings"
	"testing"

	"bosket/api"
	"bosket/lanes"
)

// notes holds the notes of tokens against what is wanted: for each comment the number of main tokens ahead, and < and > for what parts it from what precedes and from what follows.
func notes(t *testing.T, want string, l ...api.Token) {
	t.Helper()
	l = placed(l)
	var b strings.Builder
	for _, n := range lanes.Notes(kinds(), l) {
		b.WriteString(" ")
		if n.Before {
			b.WriteString("<")
		}
		b.WriteString(n.Text + string('0'+rune(n.Ahead)))
		if n.Behind {
			b.WriteString(">")
		}
	}
	if got := strings.ReplaceAll(strings.TrimPrefix(b.String(), " "), "\n", "/"); got != want {
		t.Errorf("%q: %s, want %s", lanes.Texts(l), got, want)
	}
}

func token(rule int, text string) api.Token { return api.Token{Rule: rule, Text: text} }

// one returns a token by its text: a begins main tokens, # comments, others are blanks.
func one(text string) api.Token {
	switch text[0] {
	case 'a':
		return token(0, text)
	case '#':
		return token(2, text)
	}
	return token(1, text)
}

func row(texts ...string) []api.Token {
	var l []api.Token
	for _, s := range texts {
		l = append(l, one(s))
	}
	return l
}

// P14.2: the chapter's example: a comment at the beginning.
func TestNotesAtTheBeginning(t *testing.T) {
	notes(t, "<#0", row("#")...)
	notes(t, "<#0", row("#", "a")...)
	notes(t, "<#0", row(" ", "#", " ", "a")...)
	notes(t, "<#0>", row("\n", "#", "\n", "a")...)
	notes(t, "<#0 #x0", row("#", "#x", "a")...) // a comment precedes the second one
	notes(t, "<#0 #x0", row("#", " ", "#x")...)
	notes(t, "")
	notes(t, "", row("a", " ", "\n", "a\n")...)
}

// P14.2: what stands between a comment and its neighbours, in any of several blanks.
func TestNotesBetweenMainTokens(t *testing.T) {
	notes(t, "#1", row("a", "#", "a")...)
	notes(t, "#1", row("a", " ", "#", " ", "a")...)
	notes(t, "<#1", row("a", "\n", "#", " ", "a")...)
	notes(t, "#1>", row("a", " ", "#", "\n", "a")...)
	notes(t, "<#1>", row("a", " \n ", "#", " \n ", "a")...)
	notes(t, "<#1>", row("a", "\n", " ", " ", "#", " ", " ", "\n", "a")...)
	notes(t, "<#1>", row("a", " ", " ", "\n", "#", "\n", " ", " ", "a")...)
	notes(t, "<#1>", row("a", " ", "\n", " ", "#", " ", "\n", " ", "a")...)
	notes(t, "#1>", row("a", "#", "\n")...) // and before the end
	notes(t, "#1", row("a", "#", " ")...)
	notes(t, "#2 <#3", row("a", "\n", "a", "#", "a", "\n", "#", "a", "\n")...)
}

// P14.2: a line break within a comment counts behind it and before the next comment, that within a main token does not.
func TestNotesWithLineBreaksOfTheirOwn(t *testing.T) {
	notes(t, "#/1>", row("a", "#\n", "a")...)
	notes(t, "#/1> <#x1", row("a", "#\n", "#x", "a")...)
	notes(t, "#/1> <#x1", row("a", "#\n", " ", "#x", " ", "a")...)
	notes(t, "#1 #x/1> <#y1", row("a", "#", "#x\n", "#y", "a")...)
	notes(t, "#1> <#x1", row("a", "#", "\n", "#x", "a")...)
	notes(t, "#/1> #x2", row("a", "#\n", "a", "#x", "a")...)
	notes(t, "#1", row("a\n", "#", "a\n")...)
	notes(t, "#1", row("a\n", " ", "#", " ", "a\n")...)
	notes(t, "<#/x0>", row("#\nx")...)
	notes(t, "<#/0> <#/0> <#0", row("#\n", "#\n", "#")...)
	notes(t, "<#0> <#/0> <#0 #1", row("#", "\n", "#\n", "#", "a", "#")...)
}

// P14.2: line breaks behind the neighbours do not count.
func TestNotesBehindTheirNeighbours(t *testing.T) {
	notes(t, "#2", row("\n", "a", "\n", "a", "#", "a", "\n", "a", "\n")...)
	notes(t, "#1 #x1 #y1", row("a", "#", " ", "#x", " ", "#y", " ")...)
	notes(t, "<#1 #x1 #y1>", row("a", "\n", "#", " ", "#x", " ", "#y", "\n")...)
	notes(t, "#1> <#x1 #y1", row("a", "#", "\n", "#x", "#y", "a", "\n")...)
}

// P14.2: a kind that is neither Main nor Comment is treated as Skip, and so is a token of no rule.
func TestNotesAndOtherKinds(t *testing.T) {
	a, c, c2 := one("a"), one("#"), one("#x")
	for _, rule := range append(outside(), 1, 3, 4, 5, 6, 8) {
		notes(t, "<#0", token(rule, "-"), c, token(rule, "-"))
		notes(t, "#1", a, token(rule, "-"), c, token(rule, "-"), a)
		notes(t, "<#1", a, token(rule, "-\n"), c, token(rule, "-"), a)
		notes(t, "#1>", a, token(rule, "-"), c, token(rule, "-\n"), a)
		notes(t, "#1>", a, c, token(rule, "-"), token(rule, "\n-"))
		notes(t, "#1 #x1", a, c, token(rule, "-"), c2, a, token(rule, "\n"))
		notes(t, "#1> <#x1", a, c, token(rule, "\n"), c2, a)
	}
	notes(t, "#2> <#x2", token(9, "\n"), token(9, "-"), token(7, "#"), one("\n"), token(2, "#x")) // other rules of the kinds
	if got := lanes.Notes(nil, row("#", "\n", "a")); len(got) != 0 {
		t.Errorf("no rules: %v", got)
	}
	if got := lanes.Notes([]int{2}, row("#", "\n", "a")); len(got) != 1 || got[0].Text != "a" || got[0].Ahead != 0 || !got[0].Before {
		t.Errorf("one rule: %v", got)
	}
}

// P14.2: only byte 10 is a line break.
func TestNotesAndOtherBytes(t *testing.T) {
	for c := range 256 {
		want := "#1"
		if c == 10 {
			want = "<#1>"
		}
		blank := token(1, string([]byte{byte(c)}))
		notes(t, want, one("a"), blank, one("#"), blank, one("a"))
	}
	notes(t, "#1", one("a"), token(1, "\r\v\f\u2028\u2029\u0085"), one("#"), token(1, "\r\v\f\u2028\u2029\u0085"))
}

// P14.2: a note embeds its token as it is, whatever its index: the order of the list counts.
func TestNotesEmbedTheirTokens(t *testing.T) {
	l := []api.Token{{Rule: 0, Text: "a", At: 50}, {Rule: 7, Text: "#\xff", At: 9}, {Rule: 1, Text: "\n", At: -2}, {Rule: 2, Text: "", At: -7}, {Rule: 0, Text: "b", At: 50}}
	want := []lanes.Note{{Token: l[1], Ahead: 1, Behind: true}, {Token: l[3], Ahead: 1, Before: true}}
	got := lanes.Notes(kinds(), l)
	if !slices.Equal(got, want) {
		t.Fatalf("%v, want %v", got, want)
	}
	if n := got[0]; n.Rule != 7 || n.Text != "#\xff" || n.At != 9 || n.Token != l[1] {
		t.Errorf("%v", n)
	}
}

// P14.2: all short lists and many longer ones, held against a model.
func TestNotesOfAllLists(t *testing.T) {
	all := lists(letters(), 5)
	x := source(4)
	for range 20000 {
		all = append(all, x.tokens(40))
	}
	for _, l := range all {
		if got, want := lanes.Notes(kinds(), l), noted(kinds(), l); !slices.Equal(got, want) {
			t.Fatalf("%v: %v, want %v", l, got, want)
		}
	}
}
