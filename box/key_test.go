package box

import (
	"math"
	"math/rand/v2"
	"testing"

	"antiquary/api"
)

// keyOf is the key of two vectors as the chapter defines it.
func keyOf(metric int, a, b []int) int {
	sum, squares, greatest := 0, 0, 0
	for i := range a {
		d := a[i] - b[i]
		if d < 0 {
			d = -d
		}
		sum += d
		squares += d * d
		if d > greatest {
			greatest = d
		}
	}
	return map[int]int{api.MeSum: sum, api.MeEuclid: squares, api.MeMax: greatest}[metric]
}

func TestKeyExamples(t *testing.T) {
	b, v := boxOf([]int{0, 0}, []int{4, 2}), []int{7, -1}
	for _, x := range []struct{ metric, near, far, apart int }{
		{api.MeSum, 4, 10, 6}, {api.MeEuclid, 10, 58, 18}, {api.MeMax, 3, 7, 3},
	} {
		checkKeys(t, x.metric, b, v, x.near, x.far)
		checkApart(t, x.metric, b, boxOf([]int{7, 5}, []int{9, 9}), x.apart)
		checkApart(t, x.metric, b, boxOf([]int{4, 2}, []int{9, 9}), 0)
		checkApart(t, x.metric, b, b, 0)
		checkKeys(t, x.metric, boxOf(v, v), v, 0, 0)
		checkKeys(t, x.metric, boxOf([]int{3}, []int{3}), []int{3}, 0, 0)
	}
	for dims := 1; dims <= api.MaxDims; dims++ { // the greatest keys
		lo, hi := full(dims, -1000), full(dims, 1000)
		for metric, greatest := range map[int]int{api.MeSum: 2000 * dims, api.MeEuclid: 4000000 * dims, api.MeMax: 2000} {
			checkKeys(t, metric, boxOf(lo, hi), lo, 0, greatest)
			checkKeys(t, metric, boxOf(lo, hi), hi, 0, greatest)
			checkKeys(t, metric, boxOf(lo, lo), hi, greatest, greatest)
			checkKeys(t, metric, boxOf(hi, hi), lo, greatest, greatest)
			checkApart(t, metric, boxOf(lo, lo), boxOf(hi, hi), greatest)
		}
	}
}

// checkKeys checks Near and Far.
func checkKeys(t *testing.T, metric int, b api.Box, v []int, near, far int) {
	t.Helper()
	if got, e := Near(metric, b, v); got != near || e != api.OK {
		t.Errorf("P6.3: Near(%d, %v, %v) = %d, %d, want %d", metric, b, v, got, e, near)
	}
	if got, e := Far(metric, b, v); got != far || e != api.OK {
		t.Errorf("P6.3: Far(%d, %v, %v) = %d, %d, want %d", metric, b, v, got, e, far)
	}
}

// checkApart checks Apart, in both orders.
func checkApart(t *testing.T, metric int, a, b api.Box, apart int) {
	t.Helper()
	for range 2 {
		if got, e := Apart(metric, a, b); got != apart || e != api.OK {
			t.Errorf("P6.3: Apart(%d, %v, %v) = %d, %d, want %d", metric, a, b, got, e, apart)
		}
		a, b = b, a
	}
}

func TestKeyErrors(t *testing.T) {
	check := func(metric int, a, b api.Box, v []int) {
		t.Helper()
		near, one := Near(metric, a, v)
		far, two := Far(metric, a, v)
		apart, three := Apart(metric, a, b)
		other, four := Apart(metric, b, a)
		if near != 0 || far != 0 || apart != 0 || other != 0 {
			t.Errorf("P6.3: keys with errors of metric %d, %v, %v, %v: %d, %d, %d, %d", metric, a, b, v, near, far, apart, other)
		}
		if one != api.ErrArg || two != api.ErrArg || three != api.ErrArg || four != api.ErrArg {
			t.Errorf("P6.3: errors of metric %d, %v, %v, %v: %d, %d, %d, %d", metric, a, b, v, one, two, three, four)
		}
	}
	b, v := boxOf([]int{0, 0}, []int{4, 2}), []int{7, -1}
	for _, metric := range []int{0, -1, 4, 5, 1<<32 + 1, math.MinInt, math.MaxInt} {
		check(metric, b, b, v)
		check(metric, api.Box{}, b, v)
	}
	for _, metric := range metrics {
		for dims := 1; dims <= api.MaxDims; dims++ {
			if dims != 2 {
				check(metric, b, boxOf(full(dims, 0), full(dims, 0)), full(dims, 0))
			}
		}
		for _, n := range notVectors {
			check(metric, boxOf(full(max(len(n), 1), 0), full(max(len(n), 1), 0)), boxOf(n, n), n)
		}
		for _, n := range notBoxes() {
			check(metric, n, boxOf(full(max(len(n.Lo), 1), 0), full(max(len(n.Lo), 1), 0)), full(max(len(n.Lo), 1), 0))
			check(metric, n, n, n.Lo)
			check(metric, n, n, n.Hi)
		}
	}
}

// TestKeyScan compares Near and Far of all small boxes with a look at all their vectors.
func TestKeyScan(t *testing.T) {
	for _, metric := range metrics {
		for dims, hi := range map[int]int{1: 3, 2: 2, 3: 1} {
			for _, b := range boxes(dims, -1, hi) {
				inside := vectorsIn(b)
				for _, v := range grid(dims, -3, hi+1) {
					near, far, is := math.MaxInt, 0, false
					for _, w := range inside {
						near, far = min(near, keyOf(metric, v, w)), max(far, keyOf(metric, v, w))
						is = is || near == 0
					}
					checkKeys(t, metric, b, v, near, far)
					if got, _ := Near(metric, b, v); (got == 0) != contains(b, v) || is != contains(b, v) {
						t.Fatalf("P6.5: Near(%d, %v, %v) = %d", metric, b, v, got)
					}
				}
			}
		}
	}
}

// TestApartScan compares Apart of all pairs of small boxes with a look at all pairs of their vectors.
func TestApartScan(t *testing.T) {
	for _, metric := range metrics {
		for dims, hi := range map[int]int{1: 4, 2: 1} {
			all := boxes(dims, -2, hi)
			for _, a := range all {
				for _, b := range all {
					least := math.MaxInt
					for _, v := range vectorsIn(a) {
						for _, w := range vectorsIn(b) {
							least = min(least, keyOf(metric, v, w))
						}
					}
					checkApart(t, metric, a, b, least)
				}
			}
		}
	}
}

// randomVector returns a vector: often one at the limits, or near the middle.
func randomVector(r *rand.Rand, dims int) []int {
	width := []int{2, 20, 1000, 1000}[r.IntN(4)]
	v := make([]int, dims)
	for i := range v {
		v[i] = r.IntN(2*width+1) - width
		if width == 1000 && r.IntN(4) == 0 {
			v[i] = 1000 * (1 - 2*r.IntN(2))
		}
	}
	return v
}

// randomBox returns the box around two vectors, in which some sides may have one value only.
func randomBox(r *rand.Rand, dims int) api.Box {
	a, b := randomVector(r, dims), randomVector(r, dims)
	for i := range a {
		a[i], b[i] = min(a[i], b[i]), max(a[i], b[i])
		if r.IntN(5) == 0 {
			b[i] = a[i]
		}
	}
	return boxOf(a, b)
}

// randomIn returns a vector of a box, often one at its sides.
func randomIn(r *rand.Rand, b api.Box) []int {
	v := make([]int, len(b.Lo))
	for i := range v {
		v[i] = []int{b.Lo[i], b.Hi[i], b.Lo[i] + r.IntN(b.Hi[i]-b.Lo[i]+1)}[r.IntN(3)]
	}
	return v
}

// nearest returns a vector of a box none of whose coordinates could be nearer.
func nearest(b api.Box, v []int) []int {
	w := make([]int, len(v))
	for i, x := range v {
		switch {
		case x < b.Lo[i]:
			w[i] = b.Lo[i]
		case x > b.Hi[i]:
			w[i] = b.Hi[i]
		default:
			w[i] = x
		}
	}
	return w
}

// farthest returns a corner of a box none of whose coordinates could be farther.
func farthest(b api.Box, v []int) []int {
	w := make([]int, len(v))
	for i, x := range v {
		w[i] = b.Lo[i]
		if 2*x < b.Lo[i]+b.Hi[i] {
			w[i] = b.Hi[i]
		}
	}
	return w
}

// TestBounds checks bounds up to the limits: no vector of a box is beyond them, and one is at each.
func TestBounds(t *testing.T) {
	r := random()
	for range 6000 {
		dims := 1 + r.IntN(api.MaxDims)
		a, b, v := randomBox(r, dims), randomBox(r, dims), randomVector(r, dims)
		for _, metric := range metrics {
			near, e := Near(metric, b, v)
			far, f := Far(metric, b, v)
			apart, g := Apart(metric, a, b)
			if e != api.OK || f != api.OK || g != api.OK || near < 0 || far > api.MaxKey || apart < 0 {
				t.Fatalf("P6.3: metric %d, %v, %v, %v: %d, %d, %d", metric, a, b, v, near, far, apart)
			}
			if one, two := keyOf(metric, v, nearest(b, v)), keyOf(metric, v, farthest(b, v)); near != one || far != two {
				t.Fatalf("P6.5: keys of %v to %v: %d and %d are none, there are %d and %d", v, b, near, far, one, two)
			}
			if (near == 0) != contains(b, v) {
				t.Fatalf("P6.5: Near(%d, %v, %v) = %d", metric, b, v, near)
			}
			for range 20 {
				x, y := randomIn(r, a), randomIn(r, b)
				if k := keyOf(metric, v, y); k < near || k > far {
					t.Fatalf("P6.5: the key %d of %v and %v in %v is not from %d to %d", k, v, y, b, near, far)
				}
				if k := keyOf(metric, x, y); k < apart {
					t.Fatalf("P6.5: the key %d of %v in %v and %v in %v is less than %d", k, x, a, y, b, apart)
				}
			}
			if x := nearest(a, nearest(b, farthest(a, v))); keyOf(metric, x, nearest(b, x)) != apart {
				t.Fatalf("P6.3: Apart(%d, %v, %v) = %d, but there are %v and %v", metric, a, b, apart, x, nearest(b, x))
			}
		}
	}
}

// TestRandomBoxes checks P6.6 up to the limits.
func TestRandomBoxes(t *testing.T) {
	r := random()
	for range 6000 {
		dims := 1 + r.IntN(api.MaxDims)
		a, b := randomBox(r, dims), randomBox(r, dims)
		if r.IntN(2) == 0 {
			a = boxOf(nearest(b, a.Lo), nearest(b, a.Hi))
		}
		join, _ := Join(a, b)
		meet, is, _ := Meet(a, b)
		checkJoinMeet(t, b, a, join, meet)
		around, e := Of([][]int{a.Lo, b.Hi, a.Hi, b.Lo})
		if e != api.OK || !equal(around, join) {
			t.Fatalf("P6.6: Of the corners of %v and %v is %v, but Join is %v", a, b, around, join)
		}
		for _, v := range [][]int{randomIn(r, a), randomIn(r, b), randomIn(r, join), nearest(a, randomIn(r, b)), randomVector(r, dims)} {
			one, two := contains(a, v), contains(b, v)
			if (is && Has(meet, v)) != (one && two) {
				t.Fatalf("P6.6: %v in %v of %v and %v", v, meet, a, b)
			}
			if (one || two) && !Has(join, v) || Has(a, v) != one {
				t.Fatalf("P6.6: %v in %v of %v and %v", v, join, a, b)
			}
		}
		l := [][]int{randomIn(r, a), randomIn(r, a), randomIn(r, a)}
		got, e := Of(l)
		if e != api.OK || !Inside(got, a) || !Has(got, l[0]) || !Has(got, l[1]) || !Has(got, l[2]) {
			t.Fatalf("P6.6: Of(%v) = %v, %d", l, got, e)
		}
	}
}
