package byteset_test

import "bosket/api"

// model is what the document says of a set, told byte by byte.
type model [256]bool

// modelOf reads the bits of a set as the document tells them.
func modelOf(s api.Set) model {
	var m model
	for b := range m {
		m[b] = s[b/64]/(1<<(b%64))%2 == 1
	}
	return m
}

func (m model) set() api.Set {
	var s api.Set
	for b, in := range m {
		if in {
			s[b/64] += 1 << (b % 64)
		}
	}
	return s
}

func (m model) list() []byte {
	var l []byte
	for b, in := range m {
		if in {
			l = append(l, byte(b))
		}
	}
	return l
}

// modelClasses looks for the class of each byte by holding the byte against all smaller ones.
func modelClasses(sets []api.Set) [256]uint8 {
	var l []model
	for _, s := range sets {
		l = append(l, modelOf(s))
	}
	alike := func(a, b int) bool {
		for i := range l {
			if l[i][a] != l[i][b] {
				return false
			}
		}
		return true
	}
	var class [256]uint8
	next := 0
	for b := range 256 {
		a := 0
		for !alike(a, b) {
			a++
		}
		if a < b {
			class[b] = class[a]
			continue
		}
		class[b] = uint8(next)
		next++
	}
	return class
}

// samples returns sets of every form: none, all, single bytes and all but one, whole words, spans that touch and that do not, and sets without any order.
func samples() []api.Set {
	full := api.Set{^uint64(0), ^uint64(0), ^uint64(0), ^uint64(0)}
	l := []api.Set{{}, full}
	for _, b := range append([]byte{1, 62, 65, 'a', 254}, borders...) {
		one, others := api.Set{}, full
		one[b/64] = 1 << (b % 64)
		others[b/64] &^= 1 << (b % 64)
		l = append(l, one, others)
	}
	for i := range 4 {
		whole := api.Set{}
		whole[i] = ^uint64(0)
		l = append(l, whole)
	}
	for _, w := range []uint64{0x5555555555555555, 0xaaaaaaaaaaaaaaaa, 0x8000000000000001, 0xf00000000000000f, 0x3333333333333333} {
		l = append(l, api.Set{w, w, w, w}, api.Set{0, w, w, 0}, api.Set{w, 0, 0, w})
	}
	return append(l, scattered(30)...)
}

// scattered returns sets of which every run has the same ones.
func scattered(n int) []api.Set {
	var l []api.Set
	x := uint64(88172645463325252)
	for range n {
		var s api.Set
		for i := range s {
			x ^= x << 13
			x ^= x >> 7
			x ^= x << 17
			s[i] = x
		}
		l = append(l, s)
	}
	return l
}
