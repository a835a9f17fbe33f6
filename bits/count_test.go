package bits

import (
	"math"
	"slices"
	"testing"

	"antiquary/api"
)

// asked are the slots, and numbers that are none, about which the tests ask.
func asked() []int {
	l := edges()
	for slot := -2; slot <= mostSlots+2; slot++ {
		l = append(l, slot)
	}
	return l
}

func TestHas(t *testing.T) {
	numbers := asked()
	for _, b := range slices.Concat(smallSets(), widestSets(), randomSets(50)) {
		m := marksOf(b)
		for _, slot := range numbers {
			want := slot >= 0 && slot < mostSlots && m[slot]
			if got := Has(b, slot); got != want {
				t.Fatalf("P11.2: Has(%v, %d) = %v", b, slot, got)
			}
		}
	}
}

func TestCountAndSlots(t *testing.T) {
	for _, b := range slices.Concat(someSets(), allSets(0, 1, 2, 3, 4, 5, 6, 7, 8, 9, 10)) {
		slots := marksOf(b).slots()
		if got := Count(b); got != len(slots) {
			t.Fatalf("P11.2: Count(%v) = %d, want %d", b, got, len(slots))
		}
		if got := Slots(b); !slices.Equal(got, slots) {
			t.Fatalf("P11.2: Slots(%v) = %v, want %v", b, got, slots)
		}
	}
	if Count(nil) != 0 || len(Slots(nil)) != 0 {
		t.Error("P11.2: the set without slots has slots")
	}
	if b := (api.Bits{1, 4, 7, 8}); Count(b) != 4 || !slices.Equal(Slots(b), []int{1, 2, 3, 7}) {
		t.Errorf("P11.2: the set of the example has the slots %v", Slots(b))
	}
}

// TestRank counts the slots of a set one by one.
func TestRank(t *testing.T) {
	for _, b := range slices.Concat(smallSets(), widestSets(), randomSets(50)) {
		m := marksOf(b)
		rank := 0
		for slot := -2; slot <= mostSlots+2; slot++ {
			if got := Rank(b, slot); got != rank {
				t.Fatalf("P11.4: Rank(%v, %d) = %d, want %d", b, slot, got, rank)
			}
			if slot >= 0 && slot < mostSlots && m[slot] {
				rank++
			}
		}
		for _, slot := range edges() {
			want := 0
			for _, has := range m.slots() {
				if has < slot {
					want++
				}
			}
			if got := Rank(b, slot); got != want {
				t.Fatalf("P11.4: Rank(%v, %d) = %d, want %d", b, slot, got, want)
			}
		}
	}
}

// selected returns the slot at a place of a list; -1 if it has no such place.
func selected(slots []int, n int) int {
	if n < 0 || n >= len(slots) {
		return -1
	}
	return slots[n]
}

func TestSelect(t *testing.T) {
	numbers := asked()
	for _, b := range slices.Concat(smallSets(), widestSets(), randomSets(50)) {
		slots := marksOf(b).slots()
		for _, n := range append(numbers, len(slots)-1, len(slots), len(slots)+1) {
			if got, want := Select(b, n), selected(slots, n); got != want {
				t.Fatalf("P11.4: Select(%v, %d) = %d, want %d", b, n, got, want)
			}
		}
	}
}

func TestRankAndSelectExamples(t *testing.T) {
	a := api.Bits{1, 4, 7, 8}
	for _, x := range []struct{ slot, rank int }{{7, 3}, {-1, 0}, {0, 0}, {1, 0}, {2, 1}, {4, 3}, {8, 4}, {4095, 4}, {math.MinInt, 0}, {math.MaxInt, 4}} {
		if got := Rank(a, x.slot); got != x.rank {
			t.Errorf("P11.4: Rank of a and %d is %d", x.slot, got)
		}
	}
	for _, x := range []struct{ n, slot int }{{3, 7}, {4, -1}, {0, 1}, {2, 3}, {-1, -1}, {math.MinInt, -1}, {math.MaxInt, -1}} {
		if got := Select(a, x.n); got != x.slot {
			t.Errorf("P11.4: Select of a and %d is %d", x.n, got)
		}
	}
	if Rank(nil, 5) != 0 || Select(nil, 0) != -1 {
		t.Error("P11.4: the set without slots has ranks")
	}
}

// TestSlotsAndBack checks P11.8.
func TestSlotsAndBack(t *testing.T) {
	for _, b := range someSets() {
		slots := Slots(b)
		if of, e := Of(slots); e != api.OK || !slices.Equal(of, b) {
			t.Fatalf("P11.8: Of of the Slots of %v is %v, %v", b, of, e)
		}
		for n := range Count(b) {
			if got := Rank(b, Select(b, n)); got != n {
				t.Fatalf("P11.8: Rank of Select(%v, %d) = %d", b, n, got)
			}
		}
		for _, slot := range slots {
			if got := Select(b, Rank(b, slot)); got != slot {
				t.Fatalf("P11.8: Select of Rank(%v, %d) = %d", b, slot, got)
			}
		}
	}
}
