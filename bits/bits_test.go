package bits

import (
	"math"
	"math/rand/v2"
	"slices"
	"testing"

	"antiquary/api"
)

// mostSlots is the limit, as DOC.md writes it.
const mostSlots = 4096

func random() *rand.Rand { return rand.New(rand.NewPCG(11, 32)) }

// isValid reads the terms of the chapter literally: each border is compared with all others.
func isValid(b api.Bits) bool {
	if len(b)%2 != 0 {
		return false
	}
	for i, border := range b {
		if border < 0 || border > mostSlots {
			return false
		}
		for _, later := range b[i+1:] {
			if border >= later {
				return false
			}
		}
	}
	return true
}

// marks are all slots, with whether each one is in a set.
type marks [mostSlots]bool

// marksOf reads the terms of the chapter literally: a set has the slots from each border at an even place on, before the border at the next place.
func marksOf(b api.Bits) *marks {
	var m marks
	for place := 0; place < len(b); place += 2 {
		for slot := b[place]; slot < b[place+1]; slot++ {
			m[slot] = true
		}
	}
	return &m
}

// set returns the valid set of marks: a border is where they change.
func (m *marks) set() api.Bits {
	b := api.Bits{}
	before := false
	for slot, has := range m {
		if has != before {
			b = append(b, slot)
		}
		before = has
	}
	if before {
		b = append(b, mostSlots)
	}
	return b
}

// slots returns the slots of marks.
func (m *marks) slots() []int {
	var l []int
	for slot, has := range m {
		if has {
			l = append(l, slot)
		}
	}
	return l
}

// setFrom returns the set of all slots for which has answers true.
func setFrom(has func(slot int) bool) api.Bits {
	var m marks
	for slot := range m {
		m[slot] = has(slot)
	}
	return m.set()
}

// allSets returns the sets of all choices of some slots.
func allSets(slots ...int) []api.Bits {
	var sets []api.Bits
	for chosen := range 1 << len(slots) {
		var m marks
		for i, slot := range slots {
			m[slot] = chosen>>i&1 == 1
		}
		sets = append(sets, m.set())
	}
	return sets
}

// smallSets returns sets of slots at both ends, and at borders that the powers of 2 have.
func smallSets() []api.Bits {
	return slices.Concat(allSets(0, 1, 2, 3, 4, 5), allSets(0, 1, 2, 4093, 4094, 4095), allSets(0, 2047, 2048, 2049, 4095))
}

// comb returns the set of the slots whose places in blocks of a length are less than some number.
func comb(length, less int) api.Bits {
	return setFrom(func(slot int) bool { return slot%length < less })
}

// widestSets returns sets with few long runs, or as many runs as there may be.
func widestSets() []api.Bits {
	return []api.Bits{
		{}, {0, mostSlots}, {0, 1}, {4095, 4096}, {1, 4095}, {0, 4095}, {1, 4096}, {0, 1, 4095, 4096}, {0, 2048}, {2048, 4096}, {17, 3001},
		comb(2, 1), setFrom(func(slot int) bool { return slot%2 == 1 }), comb(3, 2), comb(3, 1), comb(64, 63), comb(100, 1), comb(1000, 999),
	}
}

// randomSet returns a set whose runs, and what is between them, are at most of some length.
func randomSet(r *rand.Rand) api.Bits {
	longest := []int{1, 2, 3, 10, 100, 1000, 4096}[r.IntN(7)]
	b := api.Bits{}
	for border := r.IntN(longest + 1); border <= mostSlots; border += 1 + r.IntN(longest) {
		b = append(b, border)
	}
	b = b[:len(b)-len(b)%2]
	if r.IntN(4) == 0 && len(b) > 0 { // some have the last slot
		b[len(b)-1] = mostSlots
	}
	return b
}

// randomSets returns n of them.
func randomSets(n int) []api.Bits {
	r := random()
	var sets []api.Bits
	for range n {
		sets = append(sets, randomSet(r))
	}
	return sets
}

func someSets() []api.Bits {
	return slices.Concat(smallSets(), widestSets(), randomSets(300))
}

// edges are numbers at which slots, ranks and borders begin and end, and such as are far from them.
func edges() []int {
	return []int{
		math.MinInt, math.MinInt + 1, -1 << 32, -5000, -4097, -4096, -5, -2, -1, 0, 1, 2, 3, 7, 8, 63, 64, 2047, 2048, 2049,
		4090, 4094, 4095, 4096, 4097, 4098, 5000, 1<<32 + 1, math.MaxInt - 1, math.MaxInt,
	}
}

// TestReferences checks what the other tests compare with.
func TestReferences(t *testing.T) {
	for _, b := range someSets() {
		if !isValid(b) {
			t.Fatalf("the set %v of these tests is not valid", b)
		}
		if got := marksOf(b).set(); !slices.Equal(got, b) {
			t.Fatalf("the set of the slots of %v is %v", b, got)
		}
	}
}

func checkValid(t *testing.T, b api.Bits) {
	t.Helper()
	if got := Valid(b); got != isValid(b) {
		t.Fatalf("P11.1: Valid(%v) = %v", b, got)
	}
}

// forBorders calls check with all lists of n borders out of some.
func forBorders(n int, borders []int, check func(b api.Bits)) {
	b := make(api.Bits, n)
	var fill func(at int)
	fill = func(at int) {
		if at == n {
			check(slices.Clone(b))
			return
		}
		for _, border := range borders {
			b[at] = border
			fill(at + 1)
		}
	}
	fill(0)
}

func TestValidOfSmallLists(t *testing.T) {
	for n := range 4 {
		forBorders(n, edges(), func(b api.Bits) { checkValid(t, b) })
	}
	for n := range 6 {
		forBorders(n, []int{-1, 0, 1, 2, 4095, 4096, 4097}, func(b api.Bits) { checkValid(t, b) })
	}
	for _, x := range []struct {
		b    api.Bits
		want bool
	}{
		{nil, true}, {api.Bits{}, true}, {api.Bits{0, 4096}, true}, {api.Bits{1, 4, 7, 8}, true}, {api.Bits{1, 3, 4, 5}, true},
		{api.Bits{0}, false}, {api.Bits{4096}, false}, {api.Bits{1, 2, 3}, false}, {api.Bits{3, 3}, false}, {api.Bits{4, 3}, false},
		{api.Bits{-1, 3}, false}, {api.Bits{1, 4097}, false}, {api.Bits{1, 3, 3, 4}, false}, {api.Bits{3, 4, 1, 2}, false},
	} {
		if got := Valid(x.b); got != x.want {
			t.Errorf("P11.1: Valid(%v) = %v", x.b, got)
		}
	}
}

// TestValidPlaces puts what a set must not have at every place of sets with different numbers of borders.
func TestValidPlaces(t *testing.T) {
	for _, n := range []int{1, 2, 3, 4, 9, 10, 63, 64} {
		for place := range n {
			for _, change := range append(edges(), 10, 11, 20, 50*n, 50*(place+1)-50, 50*(place+1)-51, 50*(place+1)+50, 50*(place+1)+51) {
				b := make(api.Bits, n)
				for i := range b {
					b[i] = 50 * (i + 1)
				}
				b[place] = change
				checkValid(t, b)
			}
		}
	}
}

func TestValidOfLongLists(t *testing.T) {
	ascending := func(from, n int) api.Bits {
		b := make(api.Bits, n)
		for i := range b {
			b[i] = from + i
		}
		return b
	}
	for _, x := range []struct {
		from, n int
		want    bool
	}{
		{0, 4096, true}, {1, 4096, true}, {0, 4095, false}, {0, 4097, false}, {-1, 4096, false}, {2, 4096, false}, {-1, 4098, false}, {0, 4098, false}, {2, 4094, true},
	} {
		if got := Valid(ascending(x.from, x.n)); got != x.want {
			t.Errorf("P11.1: Valid of %d borders from %d on is %v", x.n, x.from, got)
		}
	}
	for _, b := range someSets() {
		if !Valid(b) {
			t.Fatalf("P11.1: %v is not valid", b)
		}
	}
}

func checkOf(t *testing.T, slots []int) {
	t.Helper()
	var m marks
	for _, slot := range slots {
		m[slot] = true
	}
	if b, e := Of(slots); e != api.OK || !slices.Equal(b, m.set()) {
		t.Fatalf("P11.1: Of(%v) = %v, %v, want %v", slots, b, e, m.set())
	}
}

func TestOfSmallLists(t *testing.T) {
	for n := range 6 {
		forBorders(n, []int{0, 1, 2, 3, 4}, func(slots api.Bits) { checkOf(t, slots) })
	}
	for n := range 5 {
		forBorders(n, []int{0, 1, 3, 4093, 4094, 4095}, func(slots api.Bits) { checkOf(t, slots) })
	}
	for _, x := range []struct {
		slots []int
		want  api.Bits
	}{
		{nil, nil}, {[]int{}, nil}, {[]int{1, 2, 3, 7}, api.Bits{1, 4, 7, 8}}, {[]int{7, 2, 1, 3, 2}, api.Bits{1, 4, 7, 8}}, {[]int{0, 4095}, api.Bits{0, 1, 4095, 4096}}, {[]int{5, 5, 5}, api.Bits{5, 6}},
	} {
		if b, e := Of(x.slots); e != api.OK || !slices.Equal(b, x.want) {
			t.Errorf("P11.1: Of(%v) = %v, %v", x.slots, b, e)
		}
	}
}

func TestOfLongLists(t *testing.T) {
	r := random()
	all := r.Perm(mostSlots)
	checkOf(t, all)
	checkOf(t, slices.Concat(all, all, all[:100]))
	for _, b := range someSets() {
		slots := marksOf(b).slots()
		checkOf(t, slots)
		r.Shuffle(len(slots), func(i, j int) { slots[i], slots[j] = slots[j], slots[i] })
		checkOf(t, slots)
	}
	for range 1000 {
		slots := make([]int, r.IntN(200))
		width := []int{1, 5, 100, mostSlots}[r.IntN(4)]
		for i := range slots {
			slots[i] = r.IntN(width)
		}
		checkOf(t, slots)
	}
}

// TestOfWhatIsNoSlot puts numbers that are no slots at every place of lists of slots.
func TestOfWhatIsNoSlot(t *testing.T) {
	refused := func(slots []int) {
		t.Helper()
		if b, e := Of(slots); e != api.ErrArg || len(b) != 0 {
			t.Errorf("P11.1: Of(%v) = %v, %v", slots, b, e)
		}
	}
	for _, n := range []int{1, 2, 3, 10, 64} {
		for place := range n {
			for _, wrong := range edges() {
				slots := random().Perm(n)
				slots[place] = wrong
				if wrong >= 0 && wrong < mostSlots {
					checkOf(t, slots)
					continue
				}
				refused(slots)
				slots[(place+n/2)%n] = mostSlots
				refused(slots)
			}
		}
	}
	refused([]int{-1, 4096})
	refused(append(random().Perm(mostSlots), mostSlots))
}

func TestRun(t *testing.T) {
	numbers := edges()
	for from := -3; from <= 8; from++ {
		numbers = append(numbers, from, mostSlots-from)
	}
	for _, from := range numbers {
		for _, to := range numbers {
			want := setFrom(func(slot int) bool { return from <= slot && slot < to })
			if got := Run(from, to); !slices.Equal(got, want) {
				t.Errorf("P11.1: Run(%d, %d) = %v, want %v", from, to, got, want)
			}
		}
	}
	for _, x := range []struct {
		from, to int
		want     api.Bits
	}{
		{-5, 2, api.Bits{0, 2}}, {4090, 5000, api.Bits{4090, 4096}}, {7, 7, nil}, {9, 3, nil}, {0, 4096, api.Bits{0, 4096}}, {-9, 0, nil}, {4096, 4100, nil}, {4095, 4096, api.Bits{4095, 4096}},
	} {
		if got := Run(x.from, x.to); !slices.Equal(got, x.want) {
			t.Errorf("P11.1: Run(%d, %d) = %v", x.from, x.to, got)
		}
	}
}
