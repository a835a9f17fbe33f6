package bits

import (
	"slices"
	"testing"

	"antiquary/api"
)

// operation is a way to put two sets together, with what it does to one slot.
type operation struct {
	name string
	of   func(a, b api.Bits) api.Bits
	has  func(inA, inB bool) bool
}

func operations() []operation {
	return []operation{
		{"And", And, func(inA, inB bool) bool { return inA && inB }},
		{"Or", Or, func(inA, inB bool) bool { return inA || inB }},
		{"Minus", Minus, func(inA, inB bool) bool { return inA && !inB }},
	}
}

// checkOperations compares with sets that are put together slot by slot.
func checkOperations(t *testing.T, a, b api.Bits) {
	t.Helper()
	inA, inB := marksOf(a), marksOf(b)
	for _, o := range operations() {
		want := setFrom(func(slot int) bool { return o.has(inA[slot], inB[slot]) })
		if got := o.of(a, b); !slices.Equal(got, want) {
			t.Fatalf("P11.3: %s(%v, %v) = %v, want %v", o.name, a, b, got, want)
		}
	}
}

func TestOperationExamples(t *testing.T) {
	for _, x := range []struct{ a, b, and, or, minus api.Bits }{
		{api.Bits{1, 4, 7, 8}, api.Bits{3, 8}, api.Bits{3, 4, 7, 8}, api.Bits{1, 8}, api.Bits{1, 3}},
		{api.Bits{3, 8}, api.Bits{1, 4, 7, 8}, api.Bits{3, 4, 7, 8}, api.Bits{1, 8}, api.Bits{4, 7}},
		{api.Bits{1, 4}, api.Bits{4, 6}, nil, api.Bits{1, 6}, api.Bits{1, 4}},
		{api.Bits{4, 6}, api.Bits{1, 4}, nil, api.Bits{1, 6}, api.Bits{4, 6}},
		{api.Bits{0, 4096}, api.Bits{5, 6}, api.Bits{5, 6}, api.Bits{0, 4096}, api.Bits{0, 5, 6, 4096}},
		{nil, api.Bits{5, 6}, nil, api.Bits{5, 6}, nil},
		{api.Bits{5, 6}, nil, nil, api.Bits{5, 6}, api.Bits{5, 6}},
		{nil, nil, nil, nil, nil},
		{api.Bits{1, 9}, api.Bits{1, 9}, api.Bits{1, 9}, api.Bits{1, 9}, nil},
		{api.Bits{1, 2, 3, 4, 5, 6}, api.Bits{2, 3, 4, 5}, nil, api.Bits{1, 6}, api.Bits{1, 2, 3, 4, 5, 6}},
		{api.Bits{0, 4096}, api.Bits{0, 4096}, api.Bits{0, 4096}, api.Bits{0, 4096}, nil},
		{api.Bits{4095, 4096}, api.Bits{0, 4095}, nil, api.Bits{0, 4096}, api.Bits{4095, 4096}},
	} {
		if got := And(x.a, x.b); !slices.Equal(got, x.and) {
			t.Errorf("P11.3: And(%v, %v) = %v", x.a, x.b, got)
		}
		if got := Or(x.a, x.b); !slices.Equal(got, x.or) {
			t.Errorf("P11.3: Or(%v, %v) = %v", x.a, x.b, got)
		}
		if got := Minus(x.a, x.b); !slices.Equal(got, x.minus) {
			t.Errorf("P11.3: Minus(%v, %v) = %v", x.a, x.b, got)
		}
	}
}

func TestOperationsOnSmallSets(t *testing.T) {
	ends := allSets(0, 1, 2, 3, 4094, 4095)
	for _, a := range ends {
		for _, b := range ends {
			checkOperations(t, a, b)
		}
	}
}

func TestOperationsOnWideSets(t *testing.T) {
	wide := append(widestSets(), randomSets(40)...)
	for _, a := range wide {
		for _, b := range wide {
			checkOperations(t, a, b)
		}
	}
	sets := randomSets(1001)
	for i, a := range sets[1:] {
		checkOperations(t, a, sets[i])
	}
}

// forPairs calls check with pairs of sets: all of the slots 0 to 6, and some others.
func forPairs(check func(a, b api.Bits)) {
	for _, sets := range [][]api.Bits{allSets(0, 1, 2, 3, 4, 5, 6), append(widestSets(), randomSets(40)...)} {
		for _, a := range sets {
			for _, b := range sets {
				check(a, b)
			}
		}
	}
}

// TestHasAndCountOfOperations checks P11.6.
func TestHasAndCountOfOperations(t *testing.T) {
	forPairs(func(a, b api.Bits) {
		for _, o := range operations() {
			c := o.of(a, b)
			for _, slot := range slices.Concat([]int{-1, 0, 2048, 4095, 4096}, a[:min(len(a), 50)], b[:min(len(b), 50)]) {
				if Has(c, slot) != o.has(Has(a, slot), Has(b, slot)) {
					t.Fatalf("P11.6: %s(%v, %v), which is %v, has the slot %d: %v", o.name, a, b, c, slot, Has(c, slot))
				}
			}
		}
		and := Count(And(a, b))
		if Count(Or(a, b)) != Count(a)+Count(b)-and {
			t.Fatalf("P11.6: Or(%v, %v) has %d slots", a, b, Count(Or(a, b)))
		}
		if Count(Minus(a, b))+and != Count(a) {
			t.Fatalf("P11.6: Minus(%v, %v) has %d slots", a, b, Count(Minus(a, b)))
		}
	})
}

func TestLawsOfTwoSets(t *testing.T) {
	forPairs(func(a, b api.Bits) {
		if !slices.Equal(And(a, b), And(b, a)) || !slices.Equal(Or(a, b), Or(b, a)) {
			t.Fatalf("P11.7: And or Or of %v and %v is not commutative", a, b)
		}
		if !slices.Equal(Minus(a, Minus(a, b)), And(a, b)) {
			t.Fatalf("P11.7: Minus of %v and Minus of it and %v is %v", a, b, Minus(a, Minus(a, b)))
		}
	})
}

func checkLaws(t *testing.T, a, b, c api.Bits) {
	t.Helper()
	for _, x := range []struct {
		law       string
		one, also api.Bits
	}{
		{"And is associative", And(And(a, b), c), And(a, And(b, c))},
		{"Or is associative", Or(Or(a, b), c), Or(a, Or(b, c))},
		{"And distributes over Or", And(a, Or(b, c)), Or(And(a, b), And(a, c))},
		{"Or distributes over And", Or(a, And(b, c)), And(Or(a, b), Or(a, c))},
	} {
		if !slices.Equal(x.one, x.also) {
			t.Fatalf("P11.7: %s: for %v, %v and %v it gives %v and %v", x.law, a, b, c, x.one, x.also)
		}
	}
}

func TestLawsOfThreeSets(t *testing.T) {
	small := allSets(0, 1, 2, 4, 4095)
	for _, a := range small {
		for _, b := range small {
			for _, c := range small {
				checkLaws(t, a, b, c)
			}
		}
	}
	sets := append(widestSets(), randomSets(500)...)
	for i := range sets[2:] {
		checkLaws(t, sets[i], sets[i+1], sets[i+2])
	}
}

// spare returns a copy of a set, with room after it, and all of its memory.
func spare(b api.Bits) (api.Bits, []int) {
	whole := append(append([]int{}, b...), -7, -7, -7)
	return api.Bits(whole[:len(b)]), whole
}

// overwrite changes all memory of a list.
func overwrite(l []int) {
	l = l[:cap(l)]
	for i := range l {
		l[i] = -9
	}
}

// checkMemory checks that making a list leaves two others as they are, and shares no memory with them.
func checkMemory(t *testing.T, promise string, a, b api.Bits, list func(a, b api.Bits) []int) {
	t.Helper()
	x, wholeX := spare(a)
	y, wholeY := spare(b)
	beforeX, beforeY := slices.Clone(wholeX), slices.Clone(wholeY)
	got := list(x, y)
	want := slices.Clone(got)
	overwrite(list(x, y))
	if !slices.Equal(got, want) {
		t.Errorf("%s: two results for %v and %v share memory", promise, a, b)
	}
	if !slices.Equal(wholeX, beforeX) || !slices.Equal(wholeY, beforeY) {
		t.Errorf("%s: %v or %v changes, or shares memory with the result", promise, a, b)
	}
	overwrite(wholeX)
	overwrite(wholeY)
	if !slices.Equal(got, want) {
		t.Errorf("%s: the result for %v and %v changes with them", promise, a, b)
	}
}

func TestMemory(t *testing.T) {
	sets := slices.Concat(allSets(0, 1, 4095), widestSets(), randomSets(10))
	for _, a := range sets {
		for _, b := range sets {
			for _, o := range operations() {
				checkMemory(t, "P11.3", a, b, func(a, b api.Bits) []int { return o.of(a, b) })
			}
		}
		checkMemory(t, "P11.1", Slots(a), nil, func(slots, _ api.Bits) []int {
			b, _ := Of(slots)
			return b
		})
		backwards := api.Bits(Slots(a))
		slices.Reverse(backwards)
		checkMemory(t, "P11.1", backwards, nil, func(slots, _ api.Bits) []int {
			b, _ := Of(slots)
			return b
		})
		checkMemory(t, "P11.2", a, nil, func(a, _ api.Bits) []int { return Slots(a) })
		checkMemory(t, "P11.2", a, nil, func(a, _ api.Bits) []int { return []int{Count(a)} })
		checkMemory(t, "P11.2", a, nil, func(a, _ api.Bits) []int {
			if Has(a, 1) {
				return []int{1}
			}
			return nil
		})
		checkMemory(t, "P11.4", a, nil, func(a, _ api.Bits) []int { return []int{Rank(a, 9), Select(a, 9)} })
	}
	checkMemory(t, "P11.1", nil, nil, func(_, _ api.Bits) []int { return Run(3, 5) })
}

// TestWhatIsNoSet checks that what is not specified ends, and does not panic.
func TestWhatIsNoSet(t *testing.T) {
	var wrong []api.Bits
	for n := range 4 {
		forBorders(n, []int{-1 << 63, -1, 0, 5, 4096, 4097, 1<<63 - 1}, func(b api.Bits) { wrong = append(wrong, b) })
	}
	wrong = append(wrong, api.Bits{9, 8, 7, 6, 5, 4, 3, 2}, api.Bits{0, 4096, 0, 4096, 0, 4096})
	for i, b := range wrong {
		for _, n := range edges() {
			Has(b, n)
			Rank(b, n)
			Select(b, n)
		}
		Count(b)
		Slots(b)
		Encode(b)
		for _, a := range []api.Bits{nil, {1, 4, 7, 8}, wrong[(7*i+5)%len(wrong)]} {
			And(a, b)
			Or(b, a)
			Minus(a, b)
			Minus(b, a)
		}
	}
}
