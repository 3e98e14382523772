package mini

import "slices"

// A partition divides numbers into blocks, again and again. It keeps the numbers of one block side by side, so that dividing takes only as many steps as there are numbers in the list by which it divides.
type partition struct {
	order   []int // all numbers, block by block
	place   []int // where each number stands in order
	block   []int // the block of each number
	spans   []span
	touched []int // the blocks that have hits
	open    []int // the blocks by which others are still to be divided
}

// A span tells of a block where its numbers stand: from one place up to, but not including, another one. The first ones are hit. It waits while it is open.
type span struct {
	from, to int
	hits     int
	waits    bool
}

// whole returns the partition of the numbers below a bound that has one block.
func whole(bound int) *partition {
	p := &partition{block: make([]int, bound), spans: []span{{to: bound}}}
	for x := range bound {
		p.order = append(p.order, x)
		p.place = append(p.place, x)
	}
	return p
}

// divide divides each block into those of its numbers that are in a list and the others. No number is in the list twice.
func (p *partition) divide(list []int) {
	p.touched = p.touched[:0]
	for _, x := range list {
		p.hit(x)
	}
	for _, block := range p.touched {
		p.cut(block)
	}
}

// hit puts a number behind the numbers of its block that are hit already.
func (p *partition) hit(x int) {
	block := p.block[x]
	s := &p.spans[block]
	if s.hits == 0 {
		p.touched = append(p.touched, block)
	}
	to, from := s.from+s.hits, p.place[x]
	other := p.order[to]
	p.order[to], p.order[from] = x, other
	p.place[x], p.place[other] = to, from
	s.hits++
}

// cut makes a block of the numbers of a block that are hit, unless all of them are.
func (p *partition) cut(block int) {
	s := &p.spans[block]
	hits := s.hits
	s.hits = 0
	if hits == s.to-s.from {
		return
	}
	cut := span{from: s.from, to: s.from + hits}
	s.from = cut.to
	number := len(p.spans)
	for _, x := range p.order[cut.from:cut.to] {
		p.block[x] = number
	}
	// Where the block does not wait, all blocks are divided by the whole of it, so that both parts would divide them alike: the smaller one is enough.
	if s.waits || hits <= s.to-s.from {
		block = number
	}
	p.spans = append(p.spans, cut)
	p.spans[block].waits = true
	p.open = append(p.open, block)
}

// take returns the numbers of a block that was open. There are none if no block was.
func (p *partition) take() []int {
	if len(p.open) == 0 {
		return nil
	}
	last := len(p.open) - 1
	s := &p.spans[p.open[last]]
	p.open = p.open[:last]
	s.waits = false
	return slices.Clone(p.order[s.from:s.to]) // dividing moves them in order
}
