package byteset_test

import (
	"slices"
	"testing"

	"bosket/api"
	"bosket/byteset"
)

// divides checks the classes of sets, and how many they are.
func divides(t *testing.T, name string, sets []api.Set, class [256]uint8, count int) {
	t.Helper()
	got := byteset.Classes(sets...)
	if got != class {
		t.Errorf("Classes of %s: %v, want %v", name, got, class)
	}
	if n := byteset.Count(got); n != count {
		t.Errorf("Count of the Classes of %s: %d, want %d", name, n, count)
	}
}

// identity is each byte in a class of its own.
func identity() [256]uint8 {
	var class [256]uint8
	for b := range class {
		class[b] = uint8(b)
	}
	return class
}

// singles returns the sets of one byte each.
func singles() []api.Set {
	var l []api.Set
	for b := range 256 {
		var s api.Set
		s[b/64] = 1 << (b % 64)
		l = append(l, s)
	}
	return l
}

// P2.2: Classes.

func TestClassesOfFewSets(t *testing.T) {
	full := byteset.Full()
	none := [256]uint8{}
	inside := none // 0 outside, 1 inside
	for b := 'f'; b <= 'm'; b++ {
		inside[b] = 1
	}
	ahead := none // the smallest byte is of the set, so the set is class 0
	for b := 64; b < 256; b++ {
		ahead[b] = 1
	}
	nested := inside
	nested['h'], nested['i'] = 2, 2
	fm, hi := byteset.Range('f', 'm'), byteset.Range('h', 'i')
	cases := []struct {
		name  string
		sets  []api.Set
		class [256]uint8
		count int
	}{
		{"no set", nil, none, 1},
		{"no set, of a list", []api.Set{}, none, 1},
		{"the empty set", []api.Set{{}}, none, 1},
		{"all bytes", []api.Set{full}, none, 1},
		{"the empty set and all bytes", []api.Set{{}, full, {}}, none, 1},
		{"one set", []api.Set{fm}, inside, 2},
		{"one set, twice", []api.Set{fm, fm}, inside, 2},
		{"a set and all others", []api.Set{fm, byteset.Not(fm)}, inside, 2},
		{"all others", []api.Set{byteset.Not(fm)}, inside, 2},
		{"a set with the smallest byte", []api.Set{byteset.Range(0, 63)}, ahead, 2},
		{"a set without the smallest byte", []api.Set{byteset.Range(64, 255)}, ahead, 2},
		{"a set in a set", []api.Set{fm, hi}, nested, 3},
		{"a set in a set, the other way", []api.Set{hi, fm}, nested, 3},
		{"a set in a set, with more that tell nothing", []api.Set{{}, hi, full, hi, fm}, nested, 3},
	}
	for _, c := range cases {
		divides(t, c.name, c.sets, c.class, c.count)
	}
	if byteset.Classes() != none {
		t.Errorf("Classes(): %v", byteset.Classes())
	}
}

func TestClassesOfSetsThatOverlap(t *testing.T) {
	af, ez := byteset.Range('a', 'f'), byteset.Range('e', 'z')
	var want [256]uint8
	for b := 'a'; b <= 'z'; b++ {
		switch {
		case b < 'e':
			want[b] = 1
		case b <= 'f':
			want[b] = 2
		default:
			want[b] = 3
		}
	}
	divides(t, "a to f, e to z", []api.Set{af, ez}, want, 4)
	divides(t, "e to z, a to f", []api.Set{ez, af}, want, 4)
}

// A class need not be of bytes that follow each other.
func TestClassesOfSetsWithGaps(t *testing.T) {
	vowels := byteset.Of([]byte("uoiea")...)
	borderSet := byteset.Of(borders...)
	var want [256]uint8
	for b := range want {
		switch {
		case byteset.Has(borderSet, byte(b)): // 0 is one of them
			want[b] = 0
		case byteset.Has(vowels, byte(b)):
			want[b] = 2
		default:
			want[b] = 1
		}
	}
	divides(t, "vowels and borders", []api.Set{vowels, borderSet}, want, 3)
}

func TestClassesAtTheBorders(t *testing.T) {
	for _, b := range borders {
		want := [256]uint8{}
		want[b] = 1
		if b == 0 { // the smallest byte has the first number
			for i := range want {
				want[i] = min(1, uint8(i))
			}
		}
		divides(t, "one byte at a border", []api.Set{byteset.Of(b)}, want, 2)
	}
}

// As many classes as there are bytes: by a set for each byte, by a set for each bit, and by growing ranges.
func TestEveryByteInAClassOfItsOwn(t *testing.T) {
	one := singles()
	divides(t, "single bytes", one, identity(), 256)
	slices.Reverse(one)
	divides(t, "single bytes, the greatest first", one, identity(), 256)
	divides(t, "single bytes but one", one[1:], identity(), 256)
	divides(t, "single bytes but two", one[2:], func() [256]uint8 {
		class := identity()
		class[255] = 254
		return class
	}(), 255)

	var bits, ranges []api.Set
	for i := range 8 {
		var m model
		for b := range m {
			m[b] = b>>i&1 == 1
		}
		bits = append(bits, m.set())
	}
	for b := range 256 {
		ranges = append(ranges, byteset.Range(0, byte(b)))
	}
	divides(t, "bits", bits, identity(), 256)
	divides(t, "growing ranges", ranges, identity(), 256)
}

// Each of many sets counts, wherever it stands.
func TestEverySetCounts(t *testing.T) {
	for _, n := range []int{1, 2, 7, 8, 9, 15, 16, 17, 31, 32, 33, 63, 64, 65, 128, 255, 256, 257, 600} {
		for _, at := range []int{0, n / 2, n - 1} {
			sets := make([]api.Set, n)
			sets[at] = byteset.Of('q')
			var want [256]uint8
			want['q'] = 1
			divides(t, "a set among empty ones", sets, want, 2)
		}
	}
}

// Two bytes are of different classes although they are in equally many sets.
func TestClassesAreToldByTheSetsNotByTheirNumber(t *testing.T) {
	for _, n := range []int{2, 8, 9, 64, 65, 200} {
		for _, at := range []int{0, (n - 1) / 2, n - 2} {
			sets := make([]api.Set, n)
			sets[at], sets[at+1] = byteset.Of('q'), byteset.Of('r')
			var want [256]uint8
			want['q'], want['r'] = 1, 2
			divides(t, "two sets of one byte", sets, want, 3)
		}
	}
}

func TestClassesAreThoseOfTheModel(t *testing.T) {
	all := samples()
	for n := range len(all) + 1 {
		check := func(sets []api.Set) {
			t.Helper()
			if got, want := byteset.Classes(sets...), modelClasses(sets); got != want {
				t.Errorf("Classes(%x): %v, want %v", sets, got, want)
			}
		}
		check(all[:n])
		check(all[n:])
		check(all[max(0, n-2):n])
		check(all[max(0, n-3):n])
	}
	for _, a := range all {
		for _, b := range all {
			if byteset.Classes(a, b) != byteset.Classes(b, a) {
				t.Errorf("Classes of %x and %x hang on their order", a, b)
			}
		}
	}
}

// P2.2: Count.

func TestCount(t *testing.T) {
	if n := byteset.Count([256]uint8{}); n != 1 {
		t.Errorf("Count of one class: %d", n)
	}
	if n := byteset.Count(identity()); n != 256 {
		t.Errorf("Count of 256 classes: %d", n)
	}
	for _, at := range []int{0, 1, 63, 64, 127, 128, 254, 255} {
		for _, greatest := range []int{1, 2, 127, 128, 254, 255} {
			var class [256]uint8
			class[(at+100)%256] = uint8(greatest - 1)
			class[at] = uint8(greatest)
			if n := byteset.Count(class); n != greatest+1 {
				t.Errorf("Count with %d at %d: %d", greatest, at, n)
			}
		}
	}
}

// The greatest number tells, even where no byte is of the classes below it.
func TestCountOfWhatIsNoDivision(t *testing.T) {
	var class [256]uint8
	for b := range class {
		class[b] = 9
	}
	if n := byteset.Count(class); n != 10 {
		t.Errorf("Count of 9 everywhere: %d", n)
	}
	class[0], class[255] = 200, 3
	if n := byteset.Count(class); n != 201 {
		t.Errorf("Count of falling classes: %d", n)
	}
}
