package project

import (
	"math/rand/v2"
	"slices"
	"testing"

	"antiquary/api"
)

var metrics = []int{api.MeSum, api.MeEuclid, api.MeMax}

// absolute is the absolute value of a number.
func absolute(x int) int {
	if x < 0 {
		return -x
	}
	return x
}

// keyOf is the key of two vectors as the chapters define it.
func keyOf(metric int, a, b []int) int {
	sum, squares, greatest := 0, 0, 0
	for i := range a {
		d := absolute(a[i] - b[i])
		sum += d
		squares += d * d
		greatest = max(greatest, d)
	}
	return map[int]int{api.MeSum: sum, api.MeEuclid: squares, api.MeMax: greatest}[metric]
}

// boundOf reads P7.5 literally.
func boundOf(metric int, lines [][]int, r []api.Range, q []int) int {
	var bounds []int
	for k, line := range lines {
		x, g := product(line, q), 0
		if x < r[k].Lo {
			g = r[k].Lo - x
		}
		if x > r[k].Hi {
			g = x - r[k].Hi
		}
		greatest, sum, squares := 0, 0, 0
		for _, c := range line {
			greatest = max(greatest, absolute(c))
			sum += absolute(c)
			squares += c * c
		}
		dividend := map[int]int{api.MeSum: g, api.MeEuclid: g * g, api.MeMax: g}[metric]
		divisor := map[int]int{api.MeSum: greatest, api.MeEuclid: squares, api.MeMax: sum}[metric]
		quotient := dividend / divisor
		if dividend%divisor > 0 {
			quotient++
		}
		bounds = append(bounds, quotient)
	}
	return slices.Max(bounds)
}

func TestBoundExamples(t *testing.T) {
	lines := [][]int{{1, 1}, {2, -1}}
	r := Of(lines, [][]int{{0, 0}, {3, 1}})
	for metric, want := range map[int]int{api.MeSum: 6, api.MeEuclid: 18, api.MeMax: 3} {
		if got := Bound(metric, lines, r, []int{5, 5}); got != want {
			t.Errorf("P7.5: Bound(%d) = %d, want %d", metric, got, want)
		}
		for _, q := range [][]int{{0, 0}, {3, 1}, {2, 1}, {1, 0}} {
			if got := Bound(metric, lines, r, q); got != 0 {
				t.Errorf("P7.5: Bound(%d) of %v = %d, though it is in the ranges", metric, q, got)
			}
		}
	}
}

// TestBoundSmall compares Bound with P7.5 around small ranges, for all small lines.
func TestBoundSmall(t *testing.T) {
	for _, line := range grid(2, -3, 3) {
		if line[0] == 0 && line[1] == 0 {
			continue
		}
		for _, r := range intervals(-2, 2) {
			for _, q := range grid(2, -3, 3) {
				checkBound(t, [][]int{line}, []api.Range{r}, q)
				checkBound(t, [][]int{line, {1, -2}}, []api.Range{r, {Lo: -1, Hi: 3}}, q)
			}
		}
	}
	for steep := 1; steep <= api.MaxSlope; steep++ { // all remainders
		for hi := range 70 {
			checkBound(t, [][]int{{steep}}, []api.Range{{Lo: -70, Hi: hi - 70}}, []int{1})
			checkBound(t, [][]int{{-steep, 1, 0}}, []api.Range{{Lo: hi, Hi: 70}}, []int{1, 2, 3})
		}
	}
}

// checkBound compares Bound of all metrics with P7.5.
func checkBound(t *testing.T, lines [][]int, r []api.Range, q []int) {
	t.Helper()
	for _, metric := range metrics {
		if got, want := Bound(metric, lines, r, q), boundOf(metric, lines, r, q); got != want {
			t.Fatalf("P7.5: Bound(%d, %v, %v, %v) = %d, want %d", metric, lines, r, q, got, want)
		}
	}
}

// TestBoundLimits compares Bound with P7.5 up to the limits of ranges.
func TestBoundLimits(t *testing.T) {
	far := []api.Range{{Lo: -1 << 30, Hi: -1 << 30}, {Lo: 1 << 30, Hi: 1 << 30}, {Lo: -1 << 30, Hi: 1 << 30}, {Lo: 1<<30 - 1, Hi: 1 << 30}}
	for dims := 1; dims <= api.MaxDims; dims++ {
		for _, slope := range []int{1, -1, 16, -16} {
			for _, x := range []int{1000, -1000, 0} {
				for _, r := range far {
					checkBound(t, [][]int{full(dims, slope)}, []api.Range{r}, full(dims, x))
					line := full(dims, 0)
					line[dims-1] = slope
					checkBound(t, [][]int{line, full(dims, slope)}, []api.Range{{Lo: 0, Hi: 7}, r}, full(dims, x))
				}
			}
		}
	}
	r := random()
	for range 20000 {
		dims := 1 + r.IntN(api.MaxDims)
		lines := randomLines(r, dims)
		checkBound(t, lines, randomRanges(r, len(lines)), randomVector(r, dims))
	}
}

// TestBoundOneLine has the farthest range at every place.
func TestBoundOneLine(t *testing.T) {
	for n := 1; n <= api.MaxLines; n++ {
		for k := range n {
			lines, r := slices.Repeat([][]int{{1, 1}}, n), make([]api.Range, n)
			lines[k], r[k] = []int{2, -1}, api.Range{Lo: 7, Hi: 9}
			for metric, want := range map[int]int{api.MeSum: 4, api.MeEuclid: 10, api.MeMax: 3} {
				if got := Bound(metric, lines, r, []int{0, 0}); got != want {
					t.Errorf("P7.5: Bound(%d, %v, %v) of (0, 0) = %d, want %d", metric, lines, r, got, want)
				}
			}
		}
	}
}

// TestBoundScan looks at all small vectors whose projections are in ranges.
func TestBoundScan(t *testing.T) {
	r := random()
	for _, dims := range []int{1, 2, 3} {
		side := map[int]int{1: 6, 2: 4, 3: 2}[dims]
		all := grid(dims, -side, side)
		for range 150 {
			lines := randomLines(r, dims)
			if r.IntN(2) == 0 {
				lines = Lines(r.IntN(100), 1+r.IntN(8), dims)
			}
			ranges := Of(lines, [][]int{all[r.IntN(len(all))], all[r.IntN(len(all))]})
			var inside [][]int
			for _, v := range all {
				if contains(ranges, Apply(lines, v)) {
					inside = append(inside, v)
				}
			}
			for _, metric := range metrics {
				for _, q := range all {
					bound := Bound(metric, lines, ranges, q)
					for _, v := range inside {
						if keyOf(metric, q, v) < bound {
							t.Fatalf("P7.6: Bound(%d, %v, %v, %v) = %d, but %v is nearer", metric, lines, ranges, q, bound, v)
						}
					}
				}
			}
		}
	}
}

// step returns a vector that is times as far from q, in the direction in which the line rises most for the metric, if it is one.
func step(metric int, line, q []int, times int) []int {
	v := slices.Clone(q)
	steepest := 0
	for i, c := range line {
		switch {
		case metric == api.MeEuclid:
			v[i] += times * c
		case metric == api.MeMax && c > 0:
			v[i] += times
		case metric == api.MeMax && c < 0:
			v[i] -= times
		case absolute(c) > absolute(line[steepest]):
			steepest = i
		}
	}
	if metric == api.MeSum && line[steepest] > 0 {
		v[steepest] += times
	} else if metric == api.MeSum {
		v[steepest] -= times
	}
	for _, x := range v {
		if x < -api.MaxCoord || x > api.MaxCoord {
			return nil
		}
	}
	return v
}

// TestBoundTight steps from q where the line rises most: the bound is the key itself.
func TestBoundTight(t *testing.T) {
	r := random()
	tight := 0
	for range 20000 {
		dims := 1 + r.IntN(api.MaxDims)
		lines, q := randomLines(r, dims), randomVector(r, dims)
		metric := metrics[r.IntN(3)]
		v := step(metric, lines[r.IntN(len(lines))], q, r.IntN(1+[]int{3, 60, 2000}[r.IntN(3)]))
		if v == nil {
			continue
		}
		tight++
		ranges := Of(lines, [][]int{v})
		if got, want := Bound(metric, lines, ranges, q), keyOf(metric, q, v); got != want {
			t.Fatalf("P7.6: Bound(%d, %v, %v, %v) = %d, but the key of %v is %d", metric, lines, ranges, q, got, v, want)
		}
	}
	if tight < 3000 {
		t.Errorf("P7.6: only %d steps", tight)
	}
}

// wider returns ranges that have all that are given, and may have more.
func wider(r *rand.Rand, ranges []api.Range) []api.Range {
	var l []api.Range
	for _, x := range ranges {
		l = append(l, api.Range{Lo: x.Lo - r.IntN(4)*r.IntN(300), Hi: x.Hi + r.IntN(4)*r.IntN(300)})
	}
	return l
}

// TestBoundRandom checks up to the limits that no vector in ranges is nearer than Bound, and how Bound follows ranges and lines.
func TestBoundRandom(t *testing.T) {
	r := random()
	for range 6000 {
		dims := 1 + r.IntN(api.MaxDims)
		lines, q := randomLines(r, dims), randomVector(r, dims)
		if r.IntN(3) == 0 {
			lines = Lines(int(r.Uint64()), 1+r.IntN(8), dims)
		}
		var l [][]int
		for range 1 + r.IntN(6) {
			l = append(l, randomVector(r, dims))
		}
		ranges := Of(lines, l)
		wide, other := wider(r, ranges), randomRanges(r, len(lines))
		for _, metric := range metrics {
			bound := Bound(metric, lines, ranges, q)
			for _, v := range l {
				if keyOf(metric, q, v) < bound {
					t.Fatalf("P7.6: Bound(%d, %v, %v, %v) = %d, but %v is nearer", metric, lines, ranges, q, bound, v)
				}
			}
			if Bound(metric, lines, wide, q) > bound || Bound(metric, lines, Join(ranges, other), q) > min(bound, Bound(metric, lines, other, q)) {
				t.Fatalf("P7.7: %v and %v are wider than %v, but the bounds of %v by %v and the metric %d are greater", wide, Join(ranges, other), ranges, q, lines, metric)
			}
			for n := 1; n < len(lines); n++ {
				if fewer := Bound(metric, lines[:n], ranges[:n], q); fewer > bound {
					t.Fatalf("P7.8: the bound %d of %v by the metric %d, %v and %v is less than %d of the first %d lines", bound, q, metric, lines, ranges, fewer, n)
				}
			}
		}
	}
}

// TestMultiples checks that multiples of lines, also turned around, have the same bound.
func TestMultiples(t *testing.T) {
	r := random()
	for range 6000 {
		dims := 1 + r.IntN(api.MaxDims)
		lines, q := randomLines(r, dims), randomVector(r, dims)
		var multiples [][]int
		var ranges, others []api.Range
		for _, line := range lines {
			steepest := 0
			for _, c := range line {
				steepest = max(steepest, absolute(c))
			}
			times := 1 + r.IntN(api.MaxSlope/steepest)
			x := randomRange(r)
			x.Lo, x.Hi = x.Lo/16, x.Hi/16
			y := api.Range{Lo: times * x.Lo, Hi: times * x.Hi}
			if r.IntN(2) == 0 {
				times, y = -times, api.Range{Lo: -y.Hi, Hi: -y.Lo}
			}
			multiple := make([]int, 0, dims)
			for _, c := range line {
				multiple = append(multiple, times*c)
			}
			multiples, ranges, others = append(multiples, multiple), append(ranges, x), append(others, y)
		}
		for _, metric := range metrics {
			if one, two := Bound(metric, lines, ranges, q), Bound(metric, multiples, others, q); one != two {
				t.Fatalf("P7.8: Bound(%d, %v, %v, %v) = %d, but %d with %v and %v", metric, lines, ranges, q, one, two, multiples, others)
			}
		}
	}
}

// axes returns the lines with one coordinate 1 each.
func axes(dims int) [][]int {
	var lines [][]int
	for i := range dims {
		line := full(dims, 0)
		line[i] = 1
		lines = append(lines, line)
	}
	return lines
}

// checkAxes checks that Bound with the axes is the least key for MeMax, and no greater for the other metrics.
func checkAxes(t *testing.T, box []api.Range, q []int, least map[int]int) {
	t.Helper()
	for metric, key := range least {
		if got := Bound(metric, axes(len(q)), box, q); got > key || metric == api.MeMax && got != key {
			t.Fatalf("P7.9: Bound(%d) of %v and the box %v = %d, the least key is %d", metric, q, box, got, key)
		}
	}
}

// TestAxesScan looks at all vectors of small boxes.
func TestAxesScan(t *testing.T) {
	for dims, hi := range map[int]int{1: 4, 2: 2, 3: 1} {
		sides := intervals(-1, hi)
		for _, numbers := range grid(dims, 0, len(sides)-1) {
			var box []api.Range
			for _, n := range numbers {
				box = append(box, sides[n])
			}
			var inside [][]int
			for _, v := range grid(dims, -1, hi) {
				if contains(box, v) {
					inside = append(inside, v)
				}
			}
			for _, q := range grid(dims, -3, hi+1) {
				least := map[int]int{}
				for _, metric := range metrics {
					least[metric] = api.MaxKey
					for _, v := range inside {
						least[metric] = min(least[metric], keyOf(metric, q, v))
					}
				}
				checkAxes(t, box, q, least)
			}
		}
	}
}

// TestAxesRandom goes up to the limits, with the vector of the box none of whose coordinates could be nearer.
func TestAxesRandom(t *testing.T) {
	r := random()
	for range 6000 {
		dims := 1 + r.IntN(api.MaxLines)
		a, b, q := randomVector(r, dims), randomVector(r, dims), randomVector(r, dims)
		box := Of(axes(dims), [][]int{a, b})
		nearest := make([]int, dims)
		for i, x := range q {
			nearest[i] = max(min(x, max(a[i], b[i])), min(a[i], b[i]))
		}
		least := map[int]int{}
		for _, metric := range metrics {
			least[metric] = keyOf(metric, q, nearest)
		}
		checkAxes(t, box, q, least)
	}
}
