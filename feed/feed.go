// Package feed is layer 1, bounded queues of numbers: see shared/doc/01-feed.md.
package feed

import (
	"bosket/api"
)

// Feed is a queue of numbers: the first one put is the first one taken. Feeds are made by New only.
type Feed struct {
	queued chan int // its capacity is the feed's; it is never closed, so that Peek can send after Shut
	shut   bool
	lost   int
}

// Most is the greatest number of numbers that a feed may be made for.
const Most = 1024

// New returns an empty feed for at most most numbers. ErrArg: most is below 0, or above Most.
func New(most int) (*Feed, api.Errno) {
	if most < 0 || most > Most {
		return nil, api.ErrArg
	}
	return &Feed{queued: make(chan int, most)}, api.OK
}

// Put appends a number. ErrFull: the feed is full or shut; the number is lost.
func (f *Feed) Put(v int) api.Errno {
	if f.shut || !f.send(v) {
		f.lost++
		return api.ErrFull
	}
	return api.OK
}

// Take removes and returns the first number. ErrEmpty: there is none.
func (f *Feed) Take() (int, api.Errno) {
	select {
	case v := <-f.queued:
		return v, api.OK
	default:
		return 0, api.ErrEmpty
	}
}

// Peek returns the first number, which stays. ErrEmpty: there is none.
func (f *Feed) Peek() (int, api.Errno) {
	// A channel shows a number only by giving it up: all of them go round once, which leaves their order as it was.
	first, err := f.Take()
	if err != api.OK {
		return 0, err
	}
	f.send(first)
	for range f.Len() - 1 {
		v, _ := f.Take()
		f.send(v)
	}
	return first, api.OK
}

// Drain removes and returns all numbers, in order.
func (f *Feed) Drain() []int {
	var all []int
	for {
		v, err := f.Take()
		if err != api.OK {
			return all
		}
		all = append(all, v)
	}
}

// Len returns how many numbers are queued.
func (f *Feed) Len() int { return len(f.queued) }

// Cap returns how many numbers may be queued at most.
func (f *Feed) Cap() int { return cap(f.queued) }

// Lost returns how many numbers were lost.
func (f *Feed) Lost() int { return f.lost }

// Shut keeps further numbers from being appended.
func (f *Feed) Shut() { f.shut = true }

// Done reports whether the feed is shut and empty.
func (f *Feed) Done() bool { return f.shut && f.Len() == 0 }

// Move moves at most most numbers from the front of one feed to the end of another one, as many as there are and as that one has room for, and returns how many.
func Move(from, to *Feed, most int) int {
	// Nothing is lost by a move, so the numbers are counted ahead, and none is put where it does not fit.
	count := max(0, min(most, from.Len(), to.room()))
	for range count {
		v, _ := from.Take()
		to.send(v)
	}
	return count
}

// Either takes from the first feed and returns 0 with the number; from the second one, with 1, if the first is empty. ErrEmpty: both are.
func Either(a, b *Feed) (int, int, api.Errno) {
	if v, err := a.Take(); err == api.OK {
		return v, 0, api.OK
	}
	if v, err := b.Take(); err == api.OK {
		return v, 1, api.OK
	}
	return 0, 0, api.ErrEmpty
}

// send appends a number, shut or not, and reports whether there was room.
func (f *Feed) send(v int) bool {
	select {
	case f.queued <- v:
		return true
	default:
		return false
	}
}

// room returns how many more numbers may be appended.
func (f *Feed) room() int {
	if f.shut {
		return 0
	}
	return f.Cap() - f.Len()
}
