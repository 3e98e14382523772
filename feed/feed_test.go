package feed_test

import (
	"math"
	"slices"
	"testing"

	"bosket/api"
	"bosket/feed"
)

// made returns a feed for most numbers that holds the given ones.
func made(t *testing.T, most int, l ...int) *feed.Feed {
	t.Helper()
	f, err := feed.New(most)
	if err != api.OK || f == nil {
		t.Fatalf("New(%d): %v, %d", most, f, err)
	}
	for _, v := range l {
		if err := f.Put(v); err != api.OK {
			t.Fatalf("Put(%d) into a feed for %d: %d", v, most, err)
		}
	}
	return f
}

// holds checks everything that can be told of a feed, and leaves it as it is.
func holds(t *testing.T, f *feed.Feed, most, lost int, l ...int) {
	t.Helper()
	if f.Len() != len(l) || f.Cap() != most || f.Lost() != lost {
		t.Errorf("Len, Cap, Lost: %d, %d, %d, want %d, %d, %d", f.Len(), f.Cap(), f.Lost(), len(l), most, lost)
	}
	first, err := f.Peek()
	if len(l) == 0 {
		if first != 0 || err != api.ErrEmpty {
			t.Errorf("Peek: %d, %d, want 0, ErrEmpty", first, err)
		}
	} else if first != l[0] || err != api.OK {
		t.Errorf("Peek: %d, %d, want %d, OK", first, err, l[0])
	}
}

// drains checks the numbers of a feed, and takes them all.
func drains(t *testing.T, f *feed.Feed, l ...int) {
	t.Helper()
	if got := f.Drain(); !slices.Equal(got, l) {
		t.Errorf("Drain: %v, want %v", got, l)
	}
	if f.Len() != 0 {
		t.Errorf("Len after Drain: %d", f.Len())
	}
}

// P1.1: New.

func TestMost(t *testing.T) {
	if feed.Most != 1024 {
		t.Errorf("Most: %d", feed.Most)
	}
}

func TestNewReturnsAnEmptyFeed(t *testing.T) {
	for _, most := range []int{0, 1, 2, 1023, 1024} {
		f := made(t, most)
		holds(t, f, most, 0)
		if f.Done() {
			t.Errorf("New(%d) is Done", most)
		}
		drains(t, f)
	}
}

func TestNewRefusesWhatIsOutOfRange(t *testing.T) {
	for _, most := range []int{-1, -2, math.MinInt, 1025, 1026, math.MaxInt} {
		if f, err := feed.New(most); f != nil || err != api.ErrArg {
			t.Errorf("New(%d): %v, %d, want nil, ErrArg", most, f, err)
		}
	}
}

// P1.1: Put, Take, Peek, Drain, Len, Cap, Lost.

func TestPutAppends(t *testing.T) {
	f := made(t, 3)
	for i, v := range []int{math.MinInt, 0, math.MaxInt} {
		if err := f.Put(v); err != api.OK || f.Len() != i+1 {
			t.Errorf("Put(%d): %d, Len %d", v, err, f.Len())
		}
	}
	holds(t, f, 3, 0, math.MinInt, 0, math.MaxInt)
	drains(t, f, math.MinInt, 0, math.MaxInt)
}

func TestPutIntoAFullFeedLoses(t *testing.T) {
	for _, most := range []int{1, 2, 1024} {
		f := made(t, most)
		var want []int
		for v := range most {
			f.Put(v)
			want = append(want, v)
		}
		for lost := range 3 {
			holds(t, f, most, lost, want...)
			if err := f.Put(-7); err != api.ErrFull {
				t.Errorf("Put into a full feed for %d: %d", most, err)
			}
		}
		holds(t, f, most, 3, want...)
		drains(t, f, want...)
	}
}

func TestPutIntoAFeedForNothingLoses(t *testing.T) {
	f := made(t, 0)
	for lost := 1; lost <= 3; lost++ {
		if err := f.Put(5); err != api.ErrFull {
			t.Errorf("Put: %d", err)
		}
		holds(t, f, 0, lost)
	}
	if v, err := f.Take(); v != 0 || err != api.ErrEmpty {
		t.Errorf("Take: %d, %d", v, err)
	}
	drains(t, f)
}

func TestPutFitsAgainBehindATake(t *testing.T) {
	f := made(t, 2, 1, 2)
	f.Put(3)
	if v, err := f.Take(); v != 1 || err != api.OK {
		t.Errorf("Take: %d, %d", v, err)
	}
	if err := f.Put(4); err != api.OK {
		t.Errorf("Put: %d", err)
	}
	holds(t, f, 2, 1, 2, 4)
	drains(t, f, 2, 4)
	holds(t, f, 2, 1)
}

func TestTakeRemovesTheFirst(t *testing.T) {
	f := made(t, 4, 7, 0, -7)
	for _, want := range []int{7, 0, -7} {
		if v, err := f.Take(); v != want || err != api.OK {
			t.Errorf("Take: %d, %d, want %d, OK", v, err, want)
		}
	}
	for range 2 {
		if v, err := f.Take(); v != 0 || err != api.ErrEmpty {
			t.Errorf("Take of an empty feed: %d, %d", v, err)
		}
	}
	holds(t, f, 4, 0)
}

func TestPeekRemovesNothing(t *testing.T) {
	for n := range 6 {
		want := []int{3, 1, 4, 1, 5}[:n]
		for _, most := range []int{n, n + 1} { // full, and with room
			f := made(t, most, want...)
			for range 3 {
				holds(t, f, most, 0, want...)
			}
			drains(t, f, want...)
			holds(t, f, most, 0)
		}
	}
}

func TestDrainOfAnEmptyFeed(t *testing.T) {
	f := made(t, 3)
	drains(t, f)
	f.Put(1)
	drains(t, f, 1)
	drains(t, f)
	f.Put(2)
	holds(t, f, 3, 0, 2)
}

// P1.2: Shut, Done.

func TestShutKeepsOutWhatComes(t *testing.T) {
	f := made(t, 3, 1, 2)
	f.Shut()
	for lost := 1; lost <= 2; lost++ {
		if err := f.Put(3); err != api.ErrFull {
			t.Errorf("Put into a shut feed: %d", err)
		}
		holds(t, f, 3, lost, 1, 2)
	}
	if v, err := f.Take(); v != 1 || err != api.OK {
		t.Errorf("Take of a shut feed: %d, %d", v, err)
	}
	drains(t, f, 2)
	if err := f.Put(4); err != api.ErrFull {
		t.Errorf("Put into a shut, empty feed: %d", err)
	}
	holds(t, f, 3, 3)
}

func TestShutTwice(t *testing.T) {
	f := made(t, 2, 1)
	f.Shut()
	f.Shut()
	holds(t, f, 2, 0, 1)
	drains(t, f, 1)
	f.Shut()
	holds(t, f, 2, 0)
	if !f.Done() {
		t.Error("not Done")
	}
}

func TestDoneNeedsShutAndEmpty(t *testing.T) {
	f := made(t, 2)
	if f.Done() {
		t.Error("Done: it is empty, but not shut")
	}
	f.Put(1)
	if f.Done() {
		t.Error("Done: it is neither empty nor shut")
	}
	f.Shut()
	if f.Done() {
		t.Error("Done: it is shut, but not empty")
	}
	f.Peek()
	if f.Done() {
		t.Error("Done: Peek took the number")
	}
	f.Take()
	if !f.Done() {
		t.Error("not Done: it is shut and empty")
	}
	nothing := made(t, 0)
	if nothing.Done() {
		t.Error("Done: a feed for nothing that is not shut")
	}
	nothing.Shut()
	if !nothing.Done() {
		t.Error("not Done: a feed for nothing that is shut")
	}
}

// P1.3: Move, Either.

func TestMove(t *testing.T) {
	cases := []struct {
		name           string
		from, to       []int
		room, most     int
		moved          int
		fromEnd, toEnd []int
	}{
		{"some", []int{1, 2, 3}, []int{9}, 5, 2, 2, []int{3}, []int{9, 1, 2}},
		{"as many as there are", []int{1, 2}, nil, 5, 2, 2, nil, []int{1, 2}},
		{"more than there are", []int{1, 2}, []int{9}, 5, 7, 2, nil, []int{9, 1, 2}},
		{"far more than there are", []int{1}, nil, 5, math.MaxInt, 1, nil, []int{1}},
		{"none", []int{1, 2}, []int{9}, 5, 0, 0, []int{1, 2}, []int{9}},
		{"less than none", []int{1, 2}, []int{9}, 5, -1, 0, []int{1, 2}, []int{9}},
		{"far less than none", []int{1, 2}, []int{9}, 5, math.MinInt, 0, []int{1, 2}, []int{9}},
		{"of an empty one", nil, []int{9}, 5, 3, 0, nil, []int{9}},
		{"into one that fills up", []int{1, 2, 3}, []int{9}, 2, 3, 1, []int{2, 3}, []int{9, 1}},
		{"into a full one", []int{1, 2}, []int{9, 8}, 2, 3, 0, []int{1, 2}, []int{9, 8}},
		{"into one for nothing", []int{1, 2}, nil, 0, 3, 0, []int{1, 2}, nil},
	}
	for _, c := range cases {
		t.Run(c.name, func(t *testing.T) {
			from, to := made(t, 4, c.from...), made(t, c.room, c.to...)
			if n := feed.Move(from, to, c.most); n != c.moved {
				t.Errorf("Move: %d, want %d", n, c.moved)
			}
			holds(t, from, 4, 0, c.fromEnd...)
			holds(t, to, c.room, 0, c.toEnd...)
			drains(t, from, c.fromEnd...)
			drains(t, to, c.toEnd...)
		})
	}
}

func TestMoveIntoAShutFeed(t *testing.T) {
	from, to := made(t, 4, 1, 2), made(t, 4, 9)
	to.Shut()
	if n := feed.Move(from, to, 2); n != 0 {
		t.Errorf("Move: %d", n)
	}
	holds(t, from, 4, 0, 1, 2)
	holds(t, to, 4, 0, 9)
	drains(t, from, 1, 2)
	drains(t, to, 9)
}

func TestMoveFromAShutFeed(t *testing.T) {
	from, to := made(t, 4, 1, 2, 3), made(t, 4)
	from.Shut()
	if n := feed.Move(from, to, 2); n != 2 || from.Done() {
		t.Errorf("Move: %d, Done %v", n, from.Done())
	}
	if n := feed.Move(from, to, 2); n != 1 || !from.Done() {
		t.Errorf("Move of the rest: %d, Done %v", n, from.Done())
	}
	holds(t, from, 4, 0)
	drains(t, to, 1, 2, 3)
}

func TestMoveKeepsWhatWasLost(t *testing.T) {
	from, to := made(t, 2, 1, 2), made(t, 1, 9)
	from.Put(3)
	to.Put(8)
	to.Put(7)
	feed.Move(from, to, 2)
	holds(t, from, 2, 1, 1, 2)
	holds(t, to, 1, 2, 9)
}

// The document leaves open what a move of a feed into itself does; it ends all the same.
func TestMoveIntoItselfEnds(t *testing.T) {
	for n := range 3 {
		f := made(t, 2, []int{1, 2}[:n]...)
		feed.Move(f, f, math.MaxInt)
		if f.Len() != n || f.Lost() != 0 {
			t.Errorf("Len, Lost: %d, %d, want %d, 0", f.Len(), f.Lost(), n)
		}
	}
}

func TestEither(t *testing.T) {
	cases := []struct {
		name       string
		a, b       []int
		v, which   int
		err        api.Errno
		aEnd, bEnd []int
	}{
		{"both have some", []int{1, 2}, []int{8, 9}, 1, 0, api.OK, []int{2}, []int{8, 9}},
		{"the second is empty", []int{1, 2}, nil, 1, 0, api.OK, []int{2}, nil},
		{"the first is empty", nil, []int{8, 9}, 8, 1, api.OK, nil, []int{9}},
		{"both are empty", nil, nil, 0, 0, api.ErrEmpty, nil, nil},
	}
	for _, c := range cases {
		for _, shut := range []bool{false, true} {
			t.Run(c.name, func(t *testing.T) {
				a, b := made(t, 3, c.a...), made(t, 2, c.b...)
				if shut {
					a.Shut()
					b.Shut()
				}
				if v, which, err := feed.Either(a, b); v != c.v || which != c.which || err != c.err {
					t.Errorf("Either: %d, %d, %d, want %d, %d, %d", v, which, err, c.v, c.which, c.err)
				}
				holds(t, a, 3, 0, c.aEnd...)
				holds(t, b, 2, 0, c.bEnd...)
				drains(t, a, c.aEnd...)
				drains(t, b, c.bEnd...)
			})
		}
	}
}

// P1.4 and the example.

func TestExample(t *testing.T) {
	f, err := feed.New(1)
	if err != api.OK {
		t.Fatal(err)
	}
	if err := f.Put(5); err != api.OK {
		t.Errorf("Put(5): %d", err)
	}
	if err := f.Put(6); err != api.ErrFull {
		t.Errorf("Put(6): %d", err)
	}
}

// Numbers go through a feed that is now full and now empty, and are looked at on the way.
func TestNumbersAreTakenInTheirOrder(t *testing.T) {
	for _, most := range []int{1, 2, 3, 7, 64} {
		f := made(t, most)
		var kept, taken []int
		for v := range 500 {
			if f.Put(v) == api.OK {
				kept = append(kept, v)
			}
			f.Peek()
			if v%5 < 2 || v%97 > 60 {
				if x, err := f.Take(); err == api.OK {
					taken = append(taken, x)
				}
			}
		}
		if f.Lost()+len(kept) != 500 {
			t.Errorf("feed for %d: %d lost, %d kept", most, f.Lost(), len(kept))
		}
		if taken = append(taken, f.Drain()...); !slices.Equal(taken, kept) {
			t.Errorf("feed for %d: taken %v, kept %v", most, taken, kept)
		}
	}
}
