package pivot

import (
	"math/rand/v2"
	"slices"
	"testing"

	"antiquary/api"
	"antiquary/metric"
)

// checkBounded checks P9.5 for vectors v and x, if the keys of x are in shells.
func checkBounded(t *testing.T, m int, pivots [][]int, shells []api.Shell, v, x []int) {
	t.Helper()
	if !In(shells, keysOf(m, pivots, x)) {
		return
	}
	keys := keysOf(m, pivots, v)
	low, e1 := Low(m, shells, keys)
	high, e2 := High(m, shells, keys)
	if key := keyOf(m, v, x); e1 != api.OK || e2 != api.OK || key < low || key > high {
		t.Fatalf("P9.5: the key %d of %v and %v is not from %d to %d (%d, %d; metric %d, pivots %v, shells %v)", key, v, x, low, high, e1, e2, m, pivots, shells)
	}
}

// checkLeast checks that shells of a list have the keys of all its elements, and that none of them can be smaller.
func checkLeast(t *testing.T, m int, pivots, l [][]int) {
	t.Helper()
	shells, e := Shells(m, pivots, l)
	hasAll := func(shells []api.Shell) bool {
		return !slices.ContainsFunc(l, func(v []int) bool { return !In(shells, keysOf(m, pivots, v)) })
	}
	if e != api.OK || !hasAll(shells) {
		t.Fatalf("P9.5: Shells(%d, %v, %v) = %v, %d have not all keys", m, pivots, l, shells, e)
	}
	for i := range shells {
		without, below := slices.Clone(shells), slices.Clone(shells)
		without[i].Lo++
		below[i].Hi--
		if hasAll(without) || hasAll(below) {
			t.Fatalf("P9.5: Shells(%d, %v, %v) = %v could be smaller", m, pivots, l, shells)
		}
	}
}

// TestBoundedSmall has all vectors of small grids, and shells of all vectors in them.
func TestBoundedSmall(t *testing.T) {
	for _, m := range metrics {
		for _, all := range [][][]int{grid(1, -3, 3), grid(2, -1, 1)} {
			for n := 1; n <= 2; n++ {
				for _, l := range listsOf(n, all) {
					for _, pivots := range listsOf(3-n, all) {
						checkLeast(t, m, pivots, l)
						shells, _ := Shells(m, pivots, l)
						for _, v := range all {
							for _, x := range all {
								checkBounded(t, m, pivots, shells, v, x)
							}
						}
					}
				}
			}
		}
	}
}

// TestBoundedByAnyShells has shells that are of no list.
func TestBoundedByAnyShells(t *testing.T) {
	all := grid(2, -2, 2)
	for _, m := range metrics {
		for _, s := range smallShells(8) {
			for _, p := range all {
				for _, v := range all {
					for _, x := range all {
						checkBounded(t, m, [][]int{p}, []api.Shell{s}, v, x)
					}
				}
			}
		}
	}
}

func TestBoundedRandom(t *testing.T) {
	r := random()
	for range 3000 {
		dims, width := 1+r.IntN(api.MaxDims), randomWidth(r)
		pivots, l := randomVectors(r, 1+r.IntN(api.MaxPivots), dims, width), randomVectors(r, 1+r.IntN(6), dims, width)
		for _, m := range metrics {
			checkLeast(t, m, pivots, l)
			shells, _ := Shells(m, pivots, l)
			v := randomVector(r, dims, width)
			for _, x := range l {
				checkBounded(t, m, pivots, shells, v, x)
				checkBounded(t, m, pivots, around(r, keysOf(m, pivots, x)), v, x)
			}
		}
	}
}

// around returns shells that have keys: often no others.
func around(r *rand.Rand, keys []int) []api.Shell {
	var shells []api.Shell
	for _, key := range keys {
		s := api.Shell{Lo: key, Hi: key}
		if r.IntN(3) > 0 {
			s = api.Shell{Lo: max(0, key-r.IntN(1+key/2)), Hi: min(key+r.IntN(1+key/2), api.MaxKey)}
		}
		shells = append(shells, s)
	}
	return shells
}

// checkSpread checks the first half of P9.6.
func checkSpread(t *testing.T, m int, l [][]int, most int) {
	t.Helper()
	places, _ := Choose(m, l, most)
	pivots := at(l, places)
	cover, e := Cover(m, pivots, l)
	if e != api.OK || len(pivots) < most && cover != 0 {
		t.Fatalf("P9.6: Cover(%d, %v, %v) = %d, %d, and %d may be chosen", m, pivots, l, cover, e, most)
	}
	for i, p := range pivots {
		for _, q := range pivots[:i] {
			if key := keyOf(m, p, q); key == 0 || key < cover {
				t.Fatalf("P9.6: the key of %v and %v is %d, Cover %d (metric %d, %v)", p, q, key, cover, m, l)
			}
		}
	}
}

// checkBest checks the second half of P9.6, for other pivots.
func checkBest(t *testing.T, m int, l, others [][]int) {
	t.Helper()
	places, _ := Choose(m, l, len(others))
	got, e1 := Cover(m, at(l, places), l)
	other, e2 := Cover(m, others, l)
	twice := map[int]int{api.MeSum: 2 * other, api.MeEuclid: 4 * other, api.MeMax: 2 * other}[m]
	if e1 != api.OK || e2 != api.OK || got > metric.High(m, other, other) || got > twice {
		t.Fatalf("P9.6: Cover of %v out of %v is %d, %d, that of %v is %d, %d (metric %d)", places, l, got, e1, others, other, e2, m)
	}
}

// TestFarthestFirst has all lists of small grids, with all pivots of these grids.
func TestFarthestFirst(t *testing.T) {
	for _, m := range metrics {
		for _, all := range [][][]int{grid(1, 0, 4), grid(2, 0, 1)} {
			var others [][][]int
			for k := 1; k <= 3; k++ {
				others = append(others, listsOf(k, all)...)
			}
			for n := 1; n <= 4; n++ {
				for _, l := range listsOf(n, all) {
					for most := 1; most <= 5; most++ {
						checkSpread(t, m, l, most)
					}
					for _, pivots := range others {
						checkBest(t, m, l, pivots)
					}
				}
			}
		}
	}
}

func TestFarthestFirstRandom(t *testing.T) {
	r := random()
	for range 2000 {
		dims, width := 1+r.IntN(api.MaxDims), randomWidth(r)
		if r.IntN(2) == 0 {
			dims = 1 + r.IntN(2)
		}
		l := randomVectors(r, 1+r.IntN(25), dims, width)
		k := 1 + r.IntN(api.MaxPivots)
		for _, m := range metrics {
			checkSpread(t, m, l, k)
			checkBest(t, m, l, randomVectors(r, k, dims, width))
			checkBest(t, m, l, at(l, randomPlaces(r, k, len(l))))
		}
	}
}

// randomPlaces returns k of n places; some may be equal.
func randomPlaces(r *rand.Rand, k, n int) []int {
	var places []int
	for range k {
		places = append(places, r.IntN(n))
	}
	return places
}

// checkMore checks the first half of P9.7: what fewer pivots say is not better.
func checkMore(t *testing.T, m int, pivots, l [][]int, v []int) {
	t.Helper()
	shells, _ := Shells(m, pivots, l)
	keys := keysOf(m, pivots, v)
	cover, _ := Cover(m, pivots, l)
	low, e1 := Low(m, shells, keys)
	high, e2 := High(m, shells, keys)
	for i := range pivots {
		fewer, shellsLeft, keysLeft := slices.Delete(slices.Clone(pivots), i, i+1), slices.Delete(slices.Clone(shells), i, i+1), slices.Delete(slices.Clone(keys), i, i+1)
		if len(fewer) > 0 {
			if got, e := Cover(m, fewer, l); got < cover || e != api.OK {
				t.Fatalf("P9.7: Cover of %v and %v is %d, of %v %d (metric %d)", fewer, l, got, pivots, cover, m)
			}
		}
		lowLeft, e3 := Low(m, shellsLeft, keysLeft)
		highLeft, e4 := High(m, shellsLeft, keysLeft)
		if lowLeft > low || highLeft < high || e1 != api.OK || e2 != api.OK || e3 != api.OK || e4 != api.OK {
			t.Fatalf("P9.7: %d to %d by %v, %d to %d by %v (metric %d, %v, %v)", lowLeft, highLeft, fewer, low, high, pivots, m, l, v)
		}
	}
}

// checkJoined checks the second half of P9.7.
func checkJoined(t *testing.T, m int, a, b []api.Shell, keys []int) {
	t.Helper()
	joined, e := Join(a, b)
	if e != api.OK || !Valid(joined) || (In(a, keys) || In(b, keys)) && !In(joined, keys) {
		t.Fatalf("P9.7: Join(%v, %v) = %v, %d has not %v", a, b, joined, e, keys)
	}
	low, _ := Low(m, joined, keys)
	one, e1 := Low(m, a, keys)
	two, e2 := Low(m, b, keys)
	if low > one || low > two || e1 != api.OK || e2 != api.OK {
		t.Fatalf("P9.7: Low of Join(%v, %v) = %v and %v is %d, not %d and %d (metric %d)", a, b, joined, keys, low, one, two, m)
	}
}

func TestMorePivots(t *testing.T) {
	for _, m := range metrics {
		all := grid(1, -1, 3)
		for _, l := range listsOf(2, all) {
			for _, pivots := range slices.Concat(listsOf(1, all), listsOf(2, all), listsOf(3, all)) {
				checkMore(t, m, pivots, l, l[0])
				checkMore(t, m, pivots, l[:1], l[1])
			}
		}
	}
	r := random()
	for range 2000 {
		dims, width := 1+r.IntN(api.MaxDims), randomWidth(r)
		pivots, l := randomVectors(r, 1+r.IntN(api.MaxPivots), dims, width), randomVectors(r, 1+r.IntN(6), dims, width)
		for _, m := range metrics {
			checkMore(t, m, pivots, l, randomVector(r, dims, width))
		}
	}
}

func TestJoined(t *testing.T) {
	for _, m := range metrics {
		for _, a := range smallShells(5) {
			for _, b := range smallShells(5) {
				for key := range 9 {
					checkJoined(t, m, []api.Shell{a}, []api.Shell{b}, []int{key})
				}
			}
		}
	}
	r := random()
	for range 20000 {
		n := r.IntN(api.MaxPivots + 1)
		keys := randomKeys(r, n)
		for _, m := range metrics {
			checkJoined(t, m, randomShells(r, n), randomShells(r, n), keys)
			checkJoined(t, m, around(r, keys), randomShells(r, n), keys)
			checkJoined(t, m, randomShells(r, n), around(r, keys), keys)
		}
	}
}
