package best

import (
	"math/rand/v2"
	"slices"
	"testing"

	"antiquary/api"
)

// putAll puts hits one after the other.
func putAll(l []api.Hit, k int) []api.Hit {
	var list []api.Hit
	for _, h := range l {
		list = Put(list, k, h)
	}
	return list
}

// mergeAll merges Of of parts, one after the other.
func mergeAll(parts [][]api.Hit, k int) []api.Hit {
	var list []api.Hit
	for _, part := range parts {
		list = Merge(list, Of(part, k), k)
	}
	return list
}

// mergeTwoByTwo merges Of of parts as the leaves of a tree.
func mergeTwoByTwo(parts [][]api.Hit, k int) []api.Hit {
	if len(parts) == 1 {
		return Of(parts[0], k)
	}
	half := len(parts) / 2
	return Merge(mergeTwoByTwo(parts[:half], k), mergeTwoByTwo(parts[half:], k), k)
}

// divide puts hits into n parts, some of which may be empty.
func divide(l []api.Hit, n int, choose func(place int) int) [][]api.Hit {
	parts := make([][]api.Hit, n)
	for i, h := range l {
		at := choose(i)
		parts[at] = append(parts[at], h)
	}
	return parts
}

// checkParts checks P10.7 for one division.
func checkParts(t *testing.T, l []api.Hit, parts [][]api.Hit, k int) {
	t.Helper()
	want := leastHits(l, k)
	if got := mergeAll(parts, k); !slices.Equal(got, want) {
		t.Fatalf("P10.7: of the parts %v, for %d: %v, want %v", parts, k, got, want)
	}
	if got := mergeTwoByTwo(parts, k); !slices.Equal(got, want) {
		t.Fatalf("P10.7: two by two of the parts %v, for %d: %v, want %v", parts, k, got, want)
	}
}

// forOrders calls check with all orders of a list.
func forOrders(l []api.Hit, check func(l []api.Hit)) {
	var swap func(from int)
	swap = func(from int) {
		if from == len(l) {
			check(slices.Clone(l))
			return
		}
		for i := from; i < len(l); i++ {
			l[from], l[i] = l[i], l[from]
			swap(from + 1)
			l[from], l[i] = l[i], l[from]
		}
	}
	swap(0)
}

// TestAllDivisions divides all lists of three small hits, and many of five, into three parts in all ways.
func TestAllDivisions(t *testing.T) {
	check := func(l []api.Hit) {
		ways := 1
		for range l {
			ways *= 3
		}
		for way := range ways {
			parts := divide(l, 3, func(place int) int {
				digit := way
				for range place {
					digit /= 3
				}
				return digit % 3
			})
			for k := 1; k <= 3; k++ {
				checkParts(t, l, parts, k)
			}
		}
	}
	forLists(3, grid(2, 2, 1), check)
	r := random()
	for range 40 {
		check(somewhat(r, 5))
	}
}

// somewhat returns n small hits: many are alike.
func somewhat(r *rand.Rand, n int) []api.Hit {
	var l []api.Hit
	for range n {
		l = append(l, api.Hit{ID: 1 + r.IntN(4), Ver: 1 + r.IntN(2), Key: r.IntN(3)})
	}
	return l
}

func TestRandomDivisions(t *testing.T) {
	r := random()
	for range 2000 {
		k := randomK(r)
		l := randomHits(r, r.IntN(200))
		n := 1 + r.IntN(8)
		parts := divide(l, n, func(int) int { return r.IntN(n) })
		checkParts(t, l, parts, k)
		r.Shuffle(n, func(i, j int) { parts[i], parts[j] = parts[j], parts[i] })
		checkParts(t, l, parts, k)
	}
}

func TestPutOneAfterTheOther(t *testing.T) {
	r := random()
	for range 100 {
		l := somewhat(r, 5)
		for k := 1; k <= 4; k++ {
			want := leastHits(l, k)
			forOrders(slices.Clone(l), func(l []api.Hit) {
				if got := putAll(l, k); !slices.Equal(got, want) {
					t.Fatalf("P10.7: of %v, one after the other, for %d: %v, want %v", l, k, got, want)
				}
			})
		}
	}
	for range 500 {
		k := randomK(r)
		l := randomHits(r, r.IntN(200))
		want := leastHits(l, k)
		for range 2 {
			if got := putAll(l, k); !slices.Equal(got, want) {
				t.Fatalf("P10.7: of %v, one after the other, for %d: %v, want %v", l, k, got, want)
			}
			r.Shuffle(len(l), func(i, j int) { l[i], l[j] = l[j], l[i] })
		}
	}
}
