package symbols_test

import (
	"fmt"
	"regexp"
	"slices"
	"testing"

	"bosket/api"
	"bosket/symbols"
)

// model is what the document says of a table: a map of numbers, and how many there are.
type model map[string]int

var modelName = regexp.MustCompile(`\A[A-Za-z_][A-Za-z_0-9]{0,39}\z`)

func (m model) add(name string) (int, api.Errno) {
	if !modelName.MatchString(name) {
		return 0, api.ErrName
	}
	if n, ok := m[name]; ok {
		return n, api.ErrTwice
	}
	if len(m) == 300 {
		return 0, api.ErrBig
	}
	m[name] = len(m)
	return m[name], api.OK
}

func (m model) find(name string) int {
	if n, ok := m[name]; ok {
		return n
	}
	return -1
}

func (m model) names() []string {
	l := make([]string, len(m))
	for name, n := range m {
		l[n] = name
	}
	return l
}

// of returns what Of does, with a model as the table.
func of(names []string) (model, int, api.Errno) {
	m := model{}
	for at, name := range names {
		if _, err := m.add(name); err != api.OK {
			return nil, at, err
		}
	}
	return m, len(names), api.OK
}

// differs returns how the table and the model differ when the names are added one by one, and when they are given to Of; an empty text: they do not.
func differs(row, all []string) string {
	x, m := symbols.New(), model{}
	for at, name := range row {
		got, want := fmt.Sprint(x.Add(name)), fmt.Sprint(m.add(name))
		if got != want {
			return fmt.Sprintf("Add at %d: %s, want %s", at, got, want)
		}
		if d := unlike(x, m, all); d != "" {
			return fmt.Sprintf("behind Add at %d: %s", at, d)
		}
	}
	x, n, err := symbols.Of(row...)
	m, at, want := of(row)
	if n != at || err != want || (x == nil) != (m == nil) {
		return fmt.Sprintf("Of: %v, %d, %d, want %v, %d, %d", x, n, err, m, at, want)
	}
	if x == nil {
		return ""
	}
	return unlike(x, m, all)
}

// unlike returns how a table and a model differ now.
func unlike(x *symbols.Table, m model, all []string) string {
	if got, want := x.Names(), m.names(); !slices.Equal(got, want) || x.Len() != len(m) {
		return fmt.Sprintf("Names: %q, Len %d, want %q", got, x.Len(), want)
	}
	for _, name := range all {
		if got, want := x.Find(name), m.find(name); got != want {
			return fmt.Sprintf("Find(%q): %d, want %d", name, got, want)
		}
	}
	for n, want := range m.names() {
		if got := x.Name(n); got != want {
			return fmt.Sprintf("Name(%d): %q, want %q", n, got, want)
		}
	}
	return ""
}

// All rows of some texts, up to a length (P16.1, P16.2).
func TestEveryShortRow(t *testing.T) {
	all := []string{"a", "b", "A", "a0", "ab", "", "0", "a "}
	var grow func(row []string)
	grow = func(row []string) {
		if d := differs(row, all); d != "" {
			t.Fatalf("%q: %s", row, d)
		}
		if len(row) == 5 {
			return
		}
		for _, s := range all {
			grow(append(row[:len(row):len(row)], s))
		}
	}
	grow(nil)
}

// Rows that fill a table now and then, with texts in between that are there, or are no names (P16.1, P16.2).
func TestLongRows(t *testing.T) {
	all := append(several(330), noNames()...)
	for seed := range 40 {
		x := uint64(seed)
		var row []string
		for range 400 + 100*seed {
			x = x*6364136223846793005 + 1442695040888963407
			row = append(row, all[int(x>>33)%len(all)])
		}
		if d := differs(row, nil); d != "" {
			t.Fatalf("seed %d: %s", seed, d)
		}
		names, _, _ := of(several(290 + seed))
		if d := differs(several(290+seed), all); d != "" || (names == nil) != (seed > 10) {
			t.Fatalf("%d names: %s", 290+seed, d)
		}
	}
}
