package best

import (
	"math"
	"math/rand/v2"
	"slices"
	"testing"

	"antiquary/api"
)

// The limits, as DOC.md writes them.
const (
	mostID  = 1 << 30
	mostVer = 1 << 30
	mostKey = 1 << 27
	mostK   = 64
)

func random() *rand.Rand { return rand.New(rand.NewPCG(10, 29)) }

// pairs returns hits of the version 1, by ID and Key.
func pairs(l ...int) []api.Hit {
	var hits []api.Hit
	for i := 0; i < len(l); i += 2 {
		hits = append(hits, api.Hit{ID: l[i], Ver: 1, Key: l[i+1]})
	}
	return hits
}

// grid returns all hits with IDs from 1, versions from 1, and keys from 0 to a greatest one each.
func grid(id, ver, key int) []api.Hit {
	var all []api.Hit
	for i := 1; i <= id; i++ {
		for v := 1; v <= ver; v++ {
			for k := 0; k <= key; k++ {
				all = append(all, api.Hit{ID: i, Ver: v, Key: k})
			}
		}
	}
	return all
}

// forLists calls check with all lists of n hits out of some.
func forLists(n int, hits []api.Hit, check func(l []api.Hit)) {
	list := make([]api.Hit, n)
	var fill func(at int)
	fill = func(at int) {
		if at == n {
			check(slices.Clone(list))
			return
		}
		for _, h := range hits {
			list[at] = h
			fill(at + 1)
		}
	}
	fill(0)
}

// lessThan reads the words of the chapter literally.
func lessThan(a, b api.Hit) bool {
	if a.Key != b.Key {
		return a.Key < b.Key
	}
	if a.ID != b.ID {
		return a.ID < b.ID
	}
	return a.Ver < b.Ver
}

func isRight(h api.Hit) bool {
	return h.ID >= 1 && h.ID <= mostID && h.Ver >= 1 && h.Ver <= mostVer && h.Key >= 0 && h.Key <= mostKey
}

// isList reports whether hits are a list for k: each one is compared with all others.
func isList(l []api.Hit, k int) bool {
	if k < 1 || k > mostK || len(l) > k {
		return false
	}
	for i, h := range l {
		if !isRight(h) {
			return false
		}
		for _, later := range l[i+1:] {
			if !lessThan(h, later) || h.ID == later.ID {
				return false
			}
		}
	}
	return true
}

// hasID reports whether a hit in a list has an ID.
func hasID(l []api.Hit, id int) bool {
	return slices.ContainsFunc(l, func(h api.Hit) bool { return h.ID == id })
}

// leastHits reads P10.2 literally: it looks for the least hit whose ID is not there yet, up to k times.
func leastHits(l []api.Hit, k int) []api.Hit {
	var list []api.Hit
	for len(list) < k {
		found := false
		var least api.Hit
		for _, h := range l {
			if !hasID(list, h.ID) && (!found || lessThan(h, least)) {
				least, found = h, true
			}
		}
		if !found {
			break
		}
		list = append(list, least)
	}
	return list
}

// randomOf returns a number from lo to hi: often an end, or near one.
func randomOf(r *rand.Rand, lo, hi int) int {
	switch r.IntN(4) {
	case 0:
		return min(lo+r.IntN(3), hi)
	case 1:
		return max(hi-r.IntN(3), lo)
	default:
		return lo + r.IntN(hi-lo+1)
	}
}

// randomHits returns n right hits; the narrower the widths, the more of them have the same ID, version or key.
func randomHits(r *rand.Rand, n int) []api.Hit {
	widths := []int{1, 2, 8, 100, 1 << 20, mostID}
	ids, vers := widths[r.IntN(len(widths))], widths[r.IntN(len(widths))]
	keys := min(widths[r.IntN(len(widths))], mostKey)
	var l []api.Hit
	for range n {
		l = append(l, api.Hit{ID: randomOf(r, 1, ids), Ver: randomOf(r, 1, vers), Key: randomOf(r, 0, keys)})
	}
	return l
}

// randomK returns a number of hits: often a small one, or the greatest.
func randomK(r *rand.Rand) int {
	return []int{1, 2, 3, 1 + r.IntN(10), 1 + r.IntN(mostK), mostK}[r.IntN(6)]
}

// ladder returns a list of n hits, the keys of which are 10 apart.
func ladder(n int) []api.Hit {
	var l []api.Hit
	for i := range n {
		l = append(l, api.Hit{ID: 1000 - i, Ver: 1 + i%3, Key: 10 * i})
	}
	return l
}

func TestLess(t *testing.T) {
	least, most := math.MinInt, math.MaxInt
	hits := append(grid(3, 3, 2), []api.Hit{
		{}, {ID: -1, Ver: -1, Key: -1}, {ID: 1, Ver: 1, Key: -1}, {ID: 0, Ver: 1, Key: 1}, {ID: 1, Ver: 0, Key: 1},
		{ID: mostID, Ver: mostVer, Key: mostKey}, {ID: mostID, Ver: 1, Key: mostKey}, {ID: 1, Ver: mostVer, Key: mostKey}, {ID: mostID, Ver: 1, Key: 0},
		{ID: least, Ver: least, Key: least}, {ID: most, Ver: least, Key: least}, {ID: least, Ver: most, Key: least}, {ID: least, Ver: least, Key: most},
		{ID: most, Ver: most, Key: least}, {ID: most, Ver: least, Key: most}, {ID: least, Ver: most, Key: most}, {ID: most, Ver: most, Key: most},
	}...)
	for _, a := range hits {
		for _, b := range hits {
			if got := Less(a, b); got != lessThan(a, b) {
				t.Errorf("P10.1: Less(%v, %v) = %v", a, b, got)
			}
			if a != b && Less(a, b) == Less(b, a) || a == b && Less(a, b) {
				t.Errorf("P10.1: Less of %v and %v is no order", a, b)
			}
		}
	}
}

func checkValid(t *testing.T, l []api.Hit, k int) {
	t.Helper()
	if got := Valid(l, k); got != isList(l, k) {
		t.Fatalf("P10.1: Valid(%v, %d) = %v", l, k, got)
	}
}

func TestValidOfSmallLists(t *testing.T) {
	hits := append(grid(3, 2, 2), api.Hit{}, api.Hit{ID: 1, Key: 1}, api.Hit{Ver: 1, Key: 1}, api.Hit{ID: 1, Ver: 1, Key: -1})
	for n := range 4 {
		forLists(n, hits, func(l []api.Hit) {
			for k := range 5 {
				checkValid(t, l, k)
			}
		})
	}
}

func TestValidK(t *testing.T) {
	for _, k := range []int{math.MinInt, -64, -1, 0, 65, 66, 128, 1<<32 + 1, math.MaxInt} {
		for _, l := range [][]api.Hit{nil, {}, pairs(1, 1), ladder(64), ladder(65)} {
			if Valid(l, k) {
				t.Errorf("P10.1: Valid of %d hits for %d, which is no number of hits", len(l), k)
			}
		}
	}
	for k := 1; k <= 64; k++ {
		for n := range 70 {
			if got := Valid(ladder(n), k); got != (n <= k) {
				t.Errorf("P10.1: Valid of %d hits for %d is %v", n, k, got)
			}
		}
	}
	if !Valid(nil, 1) || !Valid([]api.Hit{}, 64) {
		t.Error("P10.1: a list without hits is one for every k")
	}
}

// TestValidPlaces puts what a list must not have at every place of lists of different lengths.
func TestValidPlaces(t *testing.T) {
	for _, n := range []int{1, 2, 3, 7, 63, 64} {
		for at := range n {
			for _, change := range []func(h *api.Hit){
				func(h *api.Hit) { h.ID = 0 }, func(h *api.Hit) { h.ID = -1 }, func(h *api.Hit) { h.ID = mostID + 1 }, func(h *api.Hit) { h.ID = mostID },
				func(h *api.Hit) { h.Ver = 0 }, func(h *api.Hit) { h.Ver = -1 }, func(h *api.Hit) { h.Ver = mostVer + 1 }, func(h *api.Hit) { h.Ver = mostVer },
				func(h *api.Hit) { h.Key = -1 }, func(h *api.Hit) { h.Key = mostKey + 1 }, func(h *api.Hit) { h.Key = mostKey }, func(h *api.Hit) { h.Key = 0 },
				func(h *api.Hit) { h.Key += 10 }, func(h *api.Hit) { h.Key -= 10 }, func(h *api.Hit) { h.Key += 11 }, func(h *api.Hit) { h.Key -= 9 },
				func(h *api.Hit) { h.ID = 1000 }, func(h *api.Hit) { h.ID = 1001 - n },
				func(h *api.Hit) { h.ID = math.MinInt }, func(h *api.Hit) { h.Ver = math.MaxInt }, func(h *api.Hit) { h.Key = math.MinInt },
			} {
				l := ladder(n)
				change(&l[at])
				checkValid(t, l, 64)
				checkValid(t, l, n)
			}
		}
	}
	twice := append(ladder(64), ladder(64)...)
	checkValid(t, twice[:64], 64)
	checkValid(t, twice[1:65], 64)
	checkValid(t, append(ladder(63), api.Hit{ID: 1000, Ver: 1, Key: 5000}), 64)
}

func checkOf(t *testing.T, l []api.Hit, k int) {
	t.Helper()
	if got, want := Of(l, k), leastHits(l, k); !slices.Equal(got, want) {
		t.Fatalf("P10.2: Of(%v, %d) = %v, want %v", l, k, got, want)
	}
}

func TestOfExamples(t *testing.T) {
	for _, x := range []struct {
		l    []api.Hit
		k    int
		want []api.Hit
	}{
		{pairs(5, 9, 3, 4, 7, 9, 3, 2), 2, pairs(3, 2, 5, 9)},
		{pairs(5, 9, 3, 4, 7, 9, 3, 2), 1, pairs(3, 2)},
		{pairs(5, 9, 3, 4, 7, 9, 3, 2), 3, pairs(3, 2, 5, 9, 7, 9)},
		{pairs(5, 9, 3, 4, 7, 9, 3, 2), 64, pairs(3, 2, 5, 9, 7, 9)},
		{nil, 1, nil},
		{[]api.Hit{}, 64, nil},
		{pairs(7, 7), 1, pairs(7, 7)},
		{pairs(7, 7, 7, 7, 7, 7), 3, pairs(7, 7)},
		{[]api.Hit{{ID: 1, Ver: 3, Key: 4}, {ID: 1, Ver: 2, Key: 4}, {ID: 1, Ver: 1, Key: 5}}, 3, []api.Hit{{ID: 1, Ver: 2, Key: 4}}},
		{[]api.Hit{{ID: 2, Ver: 1, Key: 4}, {ID: 1, Ver: 9, Key: 4}}, 1, []api.Hit{{ID: 1, Ver: 9, Key: 4}}},
		{[]api.Hit{{ID: mostID, Ver: mostVer, Key: mostKey}, {ID: 1, Ver: 1, Key: 0}}, 2, []api.Hit{{ID: 1, Ver: 1, Key: 0}, {ID: mostID, Ver: mostVer, Key: mostKey}}},
	} {
		if got := Of(x.l, x.k); !slices.Equal(got, x.want) {
			t.Errorf("P10.2: Of(%v, %d) = %v, want %v", x.l, x.k, got, x.want)
		}
	}
}

func TestOfSmallLists(t *testing.T) {
	for n := range 4 {
		forLists(n, grid(3, 2, 2), func(l []api.Hit) {
			for k := 1; k <= 4; k++ {
				checkOf(t, l, k)
			}
		})
	}
	forLists(5, grid(3, 1, 1), func(l []api.Hit) {
		for k := 1; k <= 4; k++ {
			checkOf(t, l, k)
		}
	})
}

func TestOfRandomLists(t *testing.T) {
	r := random()
	for range 5000 {
		checkOf(t, randomHits(r, r.IntN(100)), randomK(r))
	}
	for range 10 {
		checkOf(t, randomHits(r, 4096), 64)
	}
}

// TestOfRule checks what P10.8 says, and that no ID is missing if there are fewer than k.
func TestOfRule(t *testing.T) {
	check := func(l []api.Hit, k int) {
		of := Of(l, k)
		if !isList(of, k) {
			t.Fatalf("P10.2: Of(%v, %d) = %v, which is no list for it", l, k, of)
		}
		for _, h := range of {
			if !slices.Contains(l, h) {
				t.Fatalf("P10.8: Of(%v, %d) has %v, which was not given", l, k, h)
			}
		}
		for _, given := range l {
			if hasID(of, given.ID) {
				continue
			}
			if len(of) < k {
				t.Fatalf("P10.2: Of(%v, %d) = %v, without %v", l, k, of, given)
			}
			for _, h := range of {
				if lessThan(given, h) {
					t.Fatalf("P10.8: Of(%v, %d) has %v, and %v is less", l, k, h, given)
				}
			}
		}
	}
	for n := range 4 {
		forLists(n, grid(3, 2, 1), func(l []api.Hit) {
			for k := 1; k <= 4; k++ {
				check(l, k)
			}
		})
	}
	r := random()
	for range 5000 {
		check(randomHits(r, r.IntN(150)), randomK(r))
	}
}
