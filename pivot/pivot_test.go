package pivot

import (
	"math"
	"math/rand/v2"
	"reflect"
	"slices"
	"testing"

	"antiquary/api"
)

var metrics = []int{api.MeSum, api.MeEuclid, api.MeMax}

// noMetrics are numbers that are no metric.
var noMetrics = []int{0, 4, -1, -2, math.MinInt, math.MaxInt}

func random() *rand.Rand { return rand.New(rand.NewPCG(9, 26)) }

// line returns vectors of one coordinate.
func line(l ...int) [][]int {
	var vectors [][]int
	for _, x := range l {
		vectors = append(vectors, []int{x})
	}
	return vectors
}

// grid returns all lists of n numbers from lo to hi.
func grid(n, lo, hi int) [][]int {
	all := [][]int{{}}
	for range n {
		var longer [][]int
		for _, v := range all {
			for x := lo; x <= hi; x++ {
				longer = append(longer, append(slices.Clone(v), x))
			}
		}
		all = longer
	}
	return all
}

// listsOf returns all lists of n vectors out of some.
func listsOf(n int, vectors [][]int) [][][]int {
	var lists [][][]int
	for _, places := range grid(n, 0, len(vectors)-1) {
		var l [][]int
		for _, at := range places {
			l = append(l, vectors[at])
		}
		lists = append(lists, l)
	}
	return lists
}

// randomVector returns a vector with coordinates up to a width, often at its ends.
func randomVector(r *rand.Rand, dims, width int) []int {
	v := make([]int, dims)
	for i := range v {
		v[i] = r.IntN(2*width+1) - width
		if r.IntN(5) == 0 {
			v[i] = width * (1 - 2*r.IntN(2))
		}
	}
	return v
}

// randomVectors returns n vectors that are alike; some are equal.
func randomVectors(r *rand.Rand, n, dims, width int) [][]int {
	var l [][]int
	for range n {
		if len(l) > 0 && r.IntN(5) == 0 {
			l = append(l, slices.Clone(l[r.IntN(len(l))]))
		} else {
			l = append(l, randomVector(r, dims, width))
		}
	}
	return l
}

// randomWidth returns how far coordinates go: the narrower, the more keys are equal.
func randomWidth(r *rand.Rand) int { return []int{1, 2, 9, 1000, 1000}[r.IntN(5)] }

// many returns n equal vectors.
func many(n int, v ...int) [][]int { return slices.Repeat([][]int{v}, n) }

// deep returns a copy of vectors.
func deep(l [][]int) [][]int {
	var clone [][]int
	for _, v := range l {
		clone = append(clone, slices.Clone(v))
	}
	return clone
}

// keyOf is the key of two vectors, as layer 4 defines it.
func keyOf(m int, a, b []int) int {
	sum, squares, most := 0, 0, 0
	for i := range a {
		d := a[i] - b[i]
		if d < 0 {
			d = -d
		}
		sum += d
		squares += d * d
		if d > most {
			most = d
		}
	}
	return map[int]int{api.MeSum: sum, api.MeEuclid: squares, api.MeMax: most}[m]
}

// keysOf are the keys of a vector: those to the pivots, in their order.
func keysOf(m int, pivots [][]int, v []int) []int {
	var keys []int
	for _, p := range pivots {
		keys = append(keys, keyOf(m, v, p))
	}
	return keys
}

// nearestTo reads P9.2 literally: the first place whose key no other one is less than.
func nearestTo(m int, pivots [][]int, v []int) (int, int) {
	keys := keysOf(m, pivots, v)
	for at, key := range keys {
		if !slices.ContainsFunc(keys, func(other int) bool { return other < key }) {
			return at, key
		}
	}
	return -1, -1
}

// coverOf reads P9.2 literally.
func coverOf(m int, pivots, l [][]int) int {
	cover := 0
	for _, v := range l {
		if _, key := nearestTo(m, pivots, v); key > cover {
			cover = key
		}
	}
	return cover
}

// choice reads P9.1 literally: before each pivot it looks for the least keys anew.
func choice(m int, l [][]int, most int) []int {
	places, pivots := []int{0}, [][]int{l[0]}
	for len(places) < most {
		var least []int
		for _, v := range l {
			_, key := nearestTo(m, pivots, v)
			least = append(least, key)
		}
		greatest := slices.Max(least)
		if greatest == 0 {
			break
		}
		place := slices.Index(least, greatest)
		places, pivots = append(places, place), append(pivots, l[place])
	}
	return places
}

// at returns the vectors at places.
func at(l [][]int, places []int) [][]int {
	var some [][]int
	for _, place := range places {
		some = append(some, l[place])
	}
	return some
}

func checkChoose(t *testing.T, m int, l [][]int, most int) {
	t.Helper()
	if got, e := Choose(m, l, most); e != api.OK || !slices.Equal(got, choice(m, l, most)) {
		t.Fatalf("P9.1: Choose(%d, %v, %d) = %v, %d, want %v", m, l, most, got, e, choice(m, l, most))
	}
}

// checkKeys checks Nearest, Cover and Table.
func checkKeys(t *testing.T, m int, pivots, l [][]int) {
	t.Helper()
	var table [][]int
	for _, v := range l {
		table = append(table, keysOf(m, pivots, v))
		wantAt, wantKey := nearestTo(m, pivots, v)
		if place, key, e := Nearest(m, pivots, v); place != wantAt || key != wantKey || e != api.OK {
			t.Fatalf("P9.2: Nearest(%d, %v, %v) = %d, %d, %d, want %d, %d", m, pivots, v, place, key, e, wantAt, wantKey)
		}
	}
	if got, e := Cover(m, pivots, l); got != coverOf(m, pivots, l) || e != api.OK {
		t.Fatalf("P9.2: Cover(%d, %v, %v) = %d, %d, want %d", m, pivots, l, got, e, coverOf(m, pivots, l))
	}
	if got, e := Table(m, pivots, l); !reflect.DeepEqual(got, table) || e != api.OK {
		t.Fatalf("P9.2: Table(%d, %v, %v) = %v, %d, want %v", m, pivots, l, got, e, table)
	}
}

func TestChooseExamples(t *testing.T) {
	for _, x := range []struct {
		m    int
		l    [][]int
		most int
		want []int
	}{
		{api.MeSum, line(0, 10, 4, 6, 10), 3, []int{0, 1, 2}},
		{api.MeSum, line(0, 10, 4, 6, 10), 2, []int{0, 1}},
		{api.MeSum, line(0, 10, 4, 6, 10), 1, []int{0}},
		{api.MeSum, line(0, 10, 4, 6, 10), 8, []int{0, 1, 2, 3}}, // the other (10) is chosen already
		{api.MeSum, line(0, 0), 2, []int{0}},
		{api.MeSum, line(0, 10, 10), 2, []int{0, 1}},
		{api.MeSum, line(7), 8, []int{0}},
		{api.MeSum, line(7, 7, 7, 8), 8, []int{0, 3}},
		{api.MeSum, [][]int{{0, 0}, {3, 3}, {5, 0}}, 2, []int{0, 1}},
		{api.MeEuclid, [][]int{{0, 0}, {3, 3}, {5, 0}}, 2, []int{0, 2}},
		{api.MeMax, [][]int{{0, 0}, {3, 3}, {5, 0}}, 2, []int{0, 2}},
	} {
		if got, e := Choose(x.m, x.l, x.most); !slices.Equal(got, x.want) || e != api.OK {
			t.Errorf("P9.1: Choose(%d, %v, %d) = %v, %d, want %v", x.m, x.l, x.most, got, e, x.want)
		}
	}
}

func TestKeyExamples(t *testing.T) {
	pivots := line(0, 10)
	if got, e := Cover(api.MeSum, pivots, line(0, 10, 4, 6, 10)); got != 4 || e != api.OK {
		t.Errorf("P9.2: Cover of the example is %d, %d", got, e)
	}
	if place, key, e := Nearest(api.MeSum, pivots, []int{6}); place != 1 || key != 4 || e != api.OK {
		t.Errorf("P9.2: Nearest of the example is %d, %d, %d", place, key, e)
	}
	if place, key, e := Nearest(api.MeSum, pivots, []int{5}); place != 0 || key != 5 || e != api.OK {
		t.Errorf("P9.2: Nearest of (5), between both, is %d, %d, %d", place, key, e)
	}
	if got, e := Table(api.MeEuclid, pivots, line(0, 10, 4)); !reflect.DeepEqual(got, [][]int{{0, 100}, {100, 0}, {16, 36}}) || e != api.OK {
		t.Errorf("P9.2: Table is %v, %d", got, e)
	}
}

// TestSmall has all lists of few vectors of small grids.
func TestSmall(t *testing.T) {
	var lists [][][]int
	for n := 1; n <= 4; n++ {
		lists = append(lists, listsOf(n, grid(1, -2, 3))...)
	}
	for n := 1; n <= 3; n++ {
		lists = append(lists, listsOf(n, grid(2, -1, 1))...)
	}
	for _, m := range metrics {
		for _, l := range lists {
			for most := 1; most <= 5; most++ {
				checkChoose(t, m, l, most)
			}
			for k := 1; k < len(l); k++ {
				checkKeys(t, m, l[:k], l[k:])
			}
			checkKeys(t, m, l, l)
		}
	}
}

func TestRandom(t *testing.T) {
	r := random()
	for range 1500 {
		dims, width := 1+r.IntN(api.MaxDims), randomWidth(r)
		l := randomVectors(r, 1+r.IntN(20), dims, width)
		pivots := randomVectors(r, 1+r.IntN(api.MaxPivots), dims, width)
		for _, m := range metrics {
			checkChoose(t, m, l, 1+r.IntN(api.MaxPivots))
			checkKeys(t, m, pivots, l)
		}
	}
}

// TestMost has as many vectors, coordinates and pivots as there can be, and the greatest keys.
func TestMost(t *testing.T) {
	r := random()
	l := randomVectors(r, api.MaxSlots, api.MaxDims, api.MaxCoord)
	for _, m := range metrics {
		checkChoose(t, m, l, api.MaxPivots)
		checkKeys(t, m, l[api.MaxSlots-api.MaxPivots:], l)
	}
	low, high := slices.Repeat([]int{-api.MaxCoord}, api.MaxDims), slices.Repeat([]int{api.MaxCoord}, api.MaxDims)
	far := append(many(api.MaxSlots-1, low...), high)
	for _, m := range metrics {
		if got, e := Choose(m, far, api.MaxPivots); !slices.Equal(got, []int{0, api.MaxSlots - 1}) || e != api.OK {
			t.Errorf("P9.1: Choose of two vectors that are far apart is %v, %d", got, e)
		}
		checkKeys(t, m, [][]int{low}, far)
		checkKeys(t, m, many(api.MaxPivots, high...), far)
	}
}

// bad returns lists that are no vectors that fit, if at most so many do.
func bad(most int) [][][]int {
	lists := [][][]int{nil, {}, {nil}, {{}}, {{}, {}}, many(most+1, 1, 2), many(2*most, 1, 2), many(2, slices.Repeat([]int{1}, api.MaxDims+1)...), many(most + 1)}
	for _, v := range [][]int{nil, {}, {1}, {1, 2, 3}, {1, 1001}, {-1001, 2}, {math.MinInt, 2}, {1, math.MaxInt}, slices.Repeat([]int{1}, api.MaxDims+1)} {
		for place := range 4 {
			lists = append(lists, slices.Insert(many(3, 1, 2), place, v))
		}
		lists = append(lists, append(many(most-1, 1, 2), v))
	}
	for _, x := range []int{1001, -1001, math.MaxInt, math.MinInt} {
		lists = append(lists, line(x), many(3, 1, x), many(3, x, 1))
	}
	return lists
}

func TestChooseErrors(t *testing.T) {
	check := func(m int, l [][]int, most int) {
		t.Helper()
		if got, e := Choose(m, l, most); got != nil || e != api.ErrArg {
			t.Errorf("P9.1: Choose(%d, %d vectors, %d) = %v, %d", m, len(l), most, got, e)
		}
	}
	for _, m := range noMetrics {
		check(m, line(1, 2), 1)
		check(m, nil, 0)
	}
	for _, m := range metrics {
		for _, most := range []int{0, -1, api.MaxPivots + 1, api.MaxPivots + 2, math.MinInt, math.MaxInt} {
			check(m, line(1, 2), most)
			check(m, many(api.MaxSlots, 1), most)
		}
		for _, l := range bad(api.MaxSlots) {
			check(m, l, 1)
			check(m, l, api.MaxPivots)
			check(m, l, 0)
		}
	}
}

// TestKeyErrors has errors of all functions for pivots and vectors.
func TestKeyErrors(t *testing.T) {
	check := func(m int, pivots, l [][]int) {
		t.Helper()
		cover, e1 := Cover(m, pivots, l)
		table, e2 := Table(m, pivots, l)
		shells, e3 := Shells(m, pivots, l)
		if cover != 0 || table != nil || shells != nil {
			t.Errorf("P9.2, P9.3: metric %d, %d pivots, %d vectors: %d, %v and %v with an error", m, len(pivots), len(l), cover, table, shells)
		}
		if e1 != api.ErrArg || e2 != api.ErrArg || e3 != api.ErrArg {
			t.Errorf("P9.2, P9.3: metric %d, %d pivots, %d vectors: %d, %d and %d", m, len(pivots), len(l), e1, e2, e3)
		}
		if len(l) == 1 {
			if place, key, e := Nearest(m, pivots, l[0]); place != 0 || key != 0 || e != api.ErrArg {
				t.Errorf("P9.2: Nearest(%d, %v, %v) = %d, %d, %d", m, pivots, l[0], place, key, e)
			}
		}
	}
	one := [][]int{{1, 2}}
	for _, m := range noMetrics {
		check(m, one, one)
		check(m, nil, nil)
	}
	for _, m := range metrics {
		for _, pivots := range bad(api.MaxPivots) {
			check(m, pivots, one)
			check(m, pivots, nil)
			if len(pivots) > 0 {
				check(m, pivots, pivots[:1])
			}
		}
		for _, l := range bad(api.MaxSlots) {
			check(m, one, l)
			if len(l) > 0 {
				check(m, l[:1], l)
			}
		}
		check(m, line(1), one) // both fit, but are not alike
		check(m, one, line(1, 2))
		check(m, many(3, 1, 2, 3), one)
		check(m, many(2, slices.Repeat([]int{1}, api.MaxDims)...), one)
	}
}

// TestNewMemory checks that arguments stay as they are, and that results share no memory.
func TestNewMemory(t *testing.T) {
	l := [][]int{{0, 0}, {9, 9}, {4, 4}, {9, 9}, {1, 2}}
	before := deep(l)
	for _, m := range metrics {
		places, _ := Choose(m, l, 3)
		places[0] = 77
		Nearest(m, l[:3], l[4])
		Cover(m, l[:3], l)
		table, _ := Table(m, l[:3], l)
		want := deep(table)
		for _, keys := range table {
			_ = append(keys, 55)
		}
		table[1][0], want[1][0] = 66, 66
		if !reflect.DeepEqual(table, want) {
			t.Errorf("rows of a table share memory: %v", table)
		}
		shells, _ := Shells(m, l[:3], l)
		kept := slices.Clone(shells)
		joined, _ := Join(shells, shells)
		joined[0] = api.Shell{Lo: 3, Hi: 4}
		if !slices.Equal(shells, kept) {
			t.Errorf("Join shares memory: %v, %v", shells, kept)
		}
		shells[0] = api.Shell{Lo: 5, Hi: 6}
		if again, _ := Shells(m, l[:3], l); !slices.Equal(again, kept) {
			t.Errorf("Shells keeps memory: %v", again)
		}
	}
	if !reflect.DeepEqual(l, before) {
		t.Errorf("vectors are changed: %v", l)
	}
}
