package feed_test

import (
	"fmt"
	"math"
	"slices"
	"testing"

	"bosket/api"
	"bosket/feed"
)

// model is what the document says of a feed, told with a slice.
type model struct {
	l    []int
	most int
	shut bool
	lost int
}

func (m *model) full() bool { return m.shut || len(m.l) >= m.most }

func (m *model) put(v int) api.Errno {
	if m.full() {
		m.lost++
		return api.ErrFull
	}
	m.l = append(m.l, v)
	return api.OK
}

func (m *model) peek() (int, api.Errno) {
	if len(m.l) == 0 {
		return 0, api.ErrEmpty
	}
	return m.l[0], api.OK
}

func (m *model) take() (int, api.Errno) {
	v, err := m.peek()
	if err == api.OK {
		m.l = m.l[1:]
	}
	return v, err
}

func (m *model) drain() []int {
	l := m.l
	m.l = nil
	return l
}

func modelMove(from, to *model, most int) int {
	n := 0
	for n < most && len(from.l) > 0 && !to.full() {
		v, _ := from.take()
		to.put(v)
		n++
	}
	return n
}

func modelEither(a, b *model) (int, int, api.Errno) {
	if v, err := a.take(); err == api.OK {
		return v, 0, err
	}
	if v, err := b.take(); err == api.OK {
		return v, 1, err
	}
	return 0, 0, api.ErrEmpty
}

// pair is two feeds, each with its model.
type pair struct {
	f [2]*feed.Feed
	m [2]*model
}

// step is one call on a pair: what the feeds answer, and what the models do.
type step struct {
	name string
	do   func(p *pair, v int) (got, want string)
}

func steps() []step {
	var l []step
	for i := range 2 {
		l = append(l,
			step{fmt.Sprintf("put%d", i), func(p *pair, v int) (string, string) {
				return fmt.Sprint(p.f[i].Put(v)), fmt.Sprint(p.m[i].put(v))
			}},
			step{fmt.Sprintf("take%d", i), func(p *pair, v int) (string, string) {
				return fmt.Sprint(p.f[i].Take()), fmt.Sprint(p.m[i].take())
			}},
			step{fmt.Sprintf("shut%d", i), func(p *pair, v int) (string, string) {
				p.f[i].Shut()
				p.m[i].shut = true
				return "", ""
			}},
			step{fmt.Sprintf("move%d", i), func(p *pair, v int) (string, string) {
				return fmt.Sprint(feed.Move(p.f[i], p.f[1-i], 2)), fmt.Sprint(modelMove(p.m[i], p.m[1-i], 2))
			}},
		)
	}
	return append(l,
		step{"peek0", func(p *pair, v int) (string, string) {
			return fmt.Sprint(p.f[0].Peek()), fmt.Sprint(p.m[0].peek())
		}},
		step{"drain1", func(p *pair, v int) (string, string) {
			return fmt.Sprint(p.f[1].Drain()), fmt.Sprint(p.m[1].drain())
		}},
		step{"either", func(p *pair, v int) (string, string) {
			return fmt.Sprint(feed.Either(p.f[0], p.f[1])), fmt.Sprint(modelEither(p.m[0], p.m[1]))
		}},
	)
}

// run makes a row of calls on new feeds and returns the first difference from the models; none: an empty text.
func run(mosts [2]int, row []step) string {
	p := &pair{}
	for i, most := range mosts {
		p.f[i], _ = feed.New(most)
		p.m[i] = &model{most: most}
	}
	for at, s := range row {
		if got, want := s.do(p, at+1); got != want {
			return fmt.Sprintf("call %d: %s, want %s", at, got, want)
		}
		for i, m := range p.m {
			f := p.f[i]
			got := fmt.Sprint(f.Len(), f.Cap(), f.Lost(), f.Done())
			want := fmt.Sprint(len(m.l), m.most, m.lost, m.shut && len(m.l) == 0)
			if got != want {
				return fmt.Sprintf("Len, Cap, Lost, Done of feed %d after call %d: %s, want %s", i, at, got, want)
			}
		}
	}
	for i, m := range p.m {
		if got := p.f[i].Drain(); !slices.Equal(got, m.l) {
			return fmt.Sprintf("the rest of feed %d: %v, want %v", i, got, m.l)
		}
	}
	return ""
}

// Every row of calls up to a length answers as the models do, and answers the same when it is made once more (P1.1 to P1.4, P2).
func TestEveryShortRowOfCalls(t *testing.T) {
	all := steps()
	const longest = 4
	for _, mosts := range [][2]int{{0, 1}, {1, 0}, {1, 2}, {3, 1}} {
		var grow func(row []step)
		grow = func(row []step) {
			for range 2 {
				if d := run(mosts, row); d != "" {
					t.Fatalf("feeds for %v, %v: %s", mosts, names(row), d)
				}
			}
			if len(row) == longest {
				return
			}
			for _, s := range all {
				grow(append(row[:len(row):len(row)], s))
			}
		}
		grow(nil)
	}
}

func names(row []step) []string {
	var l []string
	for _, s := range row {
		l = append(l, s.name)
	}
	return l
}

// P2, rule 3: calls that fail leave everything but Lost as it was, and that is what Put's promise says.
func TestFailedCallsHaveNoEffect(t *testing.T) {
	full := made(t, 2, 1, 2)
	full.Put(3)
	holds(t, full, 2, 1, 1, 2)
	drains(t, full, 1, 2)

	empty := made(t, 2)
	empty.Take()
	empty.Peek()
	feed.Either(empty, made(t, 2))
	holds(t, empty, 2, 0)
	if err := empty.Put(4); err != api.OK {
		t.Errorf("Put: %d", err)
	}
	drains(t, empty, 4)

	feed.New(-1)
	holds(t, made(t, 2, 5), 2, 0, 5)
}

// P2, rule 4: what Drain returned is nobody else's.
func TestResultsOfDrainAreNew(t *testing.T) {
	f := made(t, 4, 1, 2, 3)
	one := f.Drain()
	for _, v := range []int{4, 5, 6} {
		f.Put(v)
	}
	for i := range one {
		one[i] = -1
	}
	_ = append(one, -1)
	two := f.Drain()
	if !slices.Equal(two, []int{4, 5, 6}) {
		t.Errorf("second Drain: %v", two)
	}
	if !slices.Equal(one, []int{-1, -1, -1}) {
		t.Errorf("first Drain: %v", one)
	}
}

// P2, rule 4: feeds have nothing in common.
func TestFeedsAreApart(t *testing.T) {
	a, b := made(t, 2, 1), made(t, 2, 9)
	a.Shut()
	a.Put(2)
	a.Take()
	holds(t, a, 2, 1)
	holds(t, b, 2, 0, 9)
	if b.Done() || !a.Done() {
		t.Errorf("Done: %v, %v", a.Done(), b.Done())
	}
	if err := b.Put(8); err != api.OK {
		t.Errorf("Put: %d", err)
	}
	drains(t, b, 9, 8)
}

// P1: every call ends and does not panic, on a feed in any state, with any number.
func TestEveryCallEnds(t *testing.T) {
	extremes := []int{math.MinInt, -1025, -1, 0, 1, 1024, 1025, math.MaxInt}
	for _, most := range extremes {
		f, err := feed.New(most)
		if err != api.OK {
			continue
		}
		g := made(t, 1)
		for _, shut := range []bool{false, true} {
			if shut {
				f.Shut()
				g.Shut()
			}
			for _, v := range extremes {
				f.Put(v)
				f.Peek()
				g.Put(v)
				feed.Move(f, g, v)
				feed.Move(g, f, v)
				feed.Either(f, g)
				feed.Either(f, f)
				f.Take()
			}
			f.Drain()
			f.Done()
		}
	}
}
