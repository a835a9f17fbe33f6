package box

import (
	"math"
	"slices"
	"testing"

	"antiquary/api"
)

func TestCutExamples(t *testing.T) {
	b := boxOf([]int{0, 0}, []int{4, 2})
	for _, x := range []struct {
		b            api.Box
		axis, at     int
		below, above api.Box
	}{
		{b, 0, 1, boxOf([]int{0, 0}, []int{1, 2}), boxOf([]int{2, 0}, []int{4, 2})},
		{b, 0, 0, boxOf([]int{0, 0}, []int{0, 2}), boxOf([]int{1, 0}, []int{4, 2})},
		{b, 0, 3, boxOf([]int{0, 0}, []int{3, 2}), boxOf([]int{4, 0}, []int{4, 2})},
		{b, 1, 0, boxOf([]int{0, 0}, []int{4, 0}), boxOf([]int{0, 1}, []int{4, 2})},
		{b, 1, 1, boxOf([]int{0, 0}, []int{4, 1}), boxOf([]int{0, 2}, []int{4, 2})},
		{boxOf([]int{-1000}, []int{1000}), 0, -1000, boxOf([]int{-1000}, []int{-1000}), boxOf([]int{-999}, []int{1000})},
		{boxOf([]int{-1000}, []int{1000}), 0, 999, boxOf([]int{-1000}, []int{999}), boxOf([]int{1000}, []int{1000})},
	} {
		below, above, e := Cut(x.b, x.axis, x.at)
		if e != api.OK || !equal(below, x.below) || !equal(above, x.above) {
			t.Errorf("P6.4: Cut(%v, %d, %d) = %v, %v, %d", x.b, x.axis, x.at, below, above, e)
		}
	}
}

func TestCutErrors(t *testing.T) {
	check := func(b api.Box, axis, at int) {
		t.Helper()
		if below, above, e := Cut(b, axis, at); e != api.ErrArg || !isZero(below) || !isZero(above) {
			t.Errorf("P6.4: Cut(%v, %d, %d) = %v, %v, %d", b, axis, at, below, above, e)
		}
	}
	b := boxOf([]int{0, 0}, []int{4, 2})
	for _, axis := range []int{-1, 2, 3, 32, math.MinInt, math.MaxInt} {
		check(b, axis, 1)
	}
	for _, at := range []int{-1, -2, 4, 5, 1000, math.MinInt, math.MaxInt} {
		check(b, 0, at)
		check(boxOf([]int{0, 4, 0}, []int{9, 4, 9}), 1, at) // a side with one value cannot be cut
	}
	for _, n := range notBoxes() {
		for axis := -1; axis < 3; axis++ {
			for at := -1; at < 4; at++ {
				check(n, axis, at)
			}
		}
	}
}

// TestCutVectors cuts all small boxes everywhere, and looks at all vectors.
func TestCutVectors(t *testing.T) {
	for dims, hi := range map[int]int{1: 3, 2: 2, 3: 1} {
		places := grid(dims, -2, hi+1)
		for _, b := range boxes(dims, -1, hi) {
			inside := vectorsIn(b)
			for axis := range dims {
				for at := -3; at <= hi+2; at++ {
					least := slices.ContainsFunc(inside, func(v []int) bool { return v[axis] <= at })
					most := slices.ContainsFunc(inside, func(v []int) bool { return v[axis] > at })
					below, above, e := Cut(b, axis, at)
					if want := least && most; want != (e == api.OK) {
						t.Fatalf("P6.4: Cut(%v, %d, %d) = %d", b, axis, at, e)
					}
					if e != api.OK {
						continue
					}
					for _, v := range places {
						if contains(below, v) != (contains(b, v) && v[axis] <= at) || contains(above, v) != (contains(b, v) && v[axis] > at) {
							t.Fatalf("P6.4, P6.7: %v in Cut(%v, %d, %d) = %v, %v", v, b, axis, at, below, above)
						}
						checkLesser(t, b, below, above, v)
					}
				}
			}
		}
	}
}

// checkLesser checks that Near of a box is the lesser one of those of both parts.
func checkLesser(t *testing.T, b, below, above api.Box, v []int) {
	t.Helper()
	for _, metric := range metrics {
		near, _ := Near(metric, b, v)
		one, e := Near(metric, below, v)
		two, f := Near(metric, above, v)
		if e != api.OK || f != api.OK || near != min(one, two) {
			t.Fatalf("P6.7: Near(%d) of %v, %v, %v and %v: %d, %d, %d", metric, b, below, above, v, near, one, two)
		}
	}
}

func TestSplitExamples(t *testing.T) {
	for _, x := range []struct {
		b        api.Box
		axis, at int
	}{
		{boxOf([]int{0, 0}, []int{4, 2}), 0, 2},
		{boxOf([]int{0, 0}, []int{2, 4}), 1, 2},
		{boxOf([]int{0, 0}, []int{4, 4}), 0, 2},
		{boxOf([]int{3, 0, 0}, []int{5, 4, 4}), 1, 2},
		{boxOf([]int{0}, []int{1}), 0, 0},
		{boxOf([]int{7}, []int{8}), 0, 7},
		{boxOf([]int{-3, 0}, []int{0, 3}), 0, -2},
		{boxOf([]int{-1}, []int{0}), 0, -1},
		{boxOf([]int{-5}, []int{-2}), 0, -4},
		{boxOf([]int{-4}, []int{-2}), 0, -3},
		{boxOf([]int{-1000}, []int{1000}), 0, 0},
		{boxOf([]int{999}, []int{1000}), 0, 999},
		{boxOf([]int{-1000}, []int{-999}), 0, -1000},
		{boxOf(full(32, -1000), append(full(31, -1000), -999)), 31, -1000},
		{boxOf(full(32, -1000), full(32, 1000)), 0, 0},
	} {
		if axis, at, e := Split(x.b); axis != x.axis || at != x.at || e != api.OK {
			t.Errorf("P6.4: Split(%v) = %d, %d, %d, want %d, %d", x.b, axis, at, e, x.axis, x.at)
		}
	}
}

func TestSplitErrors(t *testing.T) {
	for _, n := range notBoxes() {
		if axis, at, e := Split(n); axis != 0 || at != 0 || e != api.ErrArg {
			t.Errorf("P6.4: Split(%v) = %d, %d, %d", n, axis, at, e)
		}
	}
	for dims := 1; dims <= api.MaxDims; dims++ {
		for _, x := range []int{0, 7, -7, 1000, -1000} {
			if axis, at, e := Split(boxOf(full(dims, x), full(dims, x))); axis != 0 || at != 0 || e != api.ErrState {
				t.Errorf("P6.4: Split of %d coordinates %d = %d, %d, %d", dims, x, axis, at, e)
			}
		}
	}
}

// TestSplitRule checks the rule for small boxes and random ones, and that a box can be cut there.
func TestSplitRule(t *testing.T) {
	all := append(boxes(1, -4, 4), boxes(2, -2, 2)...)
	r := random()
	for range 6000 {
		all = append(all, randomBox(r, 1+r.IntN(api.MaxDims)))
	}
	for _, b := range all {
		axis, at, e := Split(b)
		if e == api.ErrState && slices.Equal(b.Lo, b.Hi) {
			continue
		}
		if e != api.OK {
			t.Fatalf("P6.4: Split(%v) = %d", b, e)
		}
		for i := range b.Lo {
			if d, found := b.Hi[i]-b.Lo[i], b.Hi[axis]-b.Lo[axis]; d > found || d == found && i < axis {
				t.Fatalf("P6.4: Split(%v) = %d, but the coordinate %d is to be cut", b, axis, i)
			}
		}
		if sum := b.Lo[axis] + b.Hi[axis]; at != int(math.Floor(float64(sum)/2)) {
			t.Fatalf("P6.4: Split(%v) = %d, %d", b, axis, at)
		}
		below, above, e := Cut(b, axis, at)
		if e != api.OK {
			t.Fatalf("P6.4: %v cannot be cut where it is split, at %d, %d", b, axis, at)
		}
		for range 4 {
			v, w := randomVector(r, len(b.Lo)), randomIn(r, b)
			checkLesser(t, b, below, above, v)
			if contains(below, w) == contains(above, w) || contains(below, v) && !contains(b, v) || contains(above, v) && !contains(b, v) {
				t.Fatalf("P6.7: %v in %v, %v of %v", w, below, above, b)
			}
		}
	}
}

// TestInsideBounds checks that bounds of a box inside another one are not wider.
func TestInsideBounds(t *testing.T) {
	r := random()
	check := func(a, b api.Box, v []int) {
		t.Helper()
		if !Inside(a, b) {
			return
		}
		for _, metric := range metrics {
			near, e := Near(metric, a, v)
			least, f := Near(metric, b, v)
			far, g := Far(metric, a, v)
			most, h := Far(metric, b, v)
			if e != api.OK || f != api.OK || g != api.OK || h != api.OK || near < least || far > most {
				t.Fatalf("P6.7: %v in %v, and %v: %d to %d, and %d to %d", a, b, v, near, far, least, most)
			}
		}
	}
	all := boxes(2, -1, 1)
	for _, a := range all {
		for _, b := range all {
			for _, v := range grid(2, -2, 2) {
				check(a, b, v)
			}
		}
	}
	for range 6000 {
		dims := 1 + r.IntN(api.MaxDims)
		b := randomBox(r, dims)
		x, y := randomIn(r, b), randomIn(r, b)
		a, e := Of([][]int{x, y})
		if e != api.OK || !Inside(a, b) {
			t.Fatalf("P6.2: %v is not inside %v", a, b)
		}
		check(a, b, randomVector(r, dims))
	}
}
