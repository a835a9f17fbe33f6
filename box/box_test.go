package box

import (
	"math"
	"math/rand/v2"
	"slices"
	"testing"

	"antiquary/api"
)

var metrics = []int{api.MeSum, api.MeEuclid, api.MeMax}

func random() *rand.Rand { return rand.New(rand.NewPCG(6, 17)) }

func boxOf(lo, hi []int) api.Box { return api.Box{Lo: lo, Hi: hi} }

func equal(a, b api.Box) bool { return slices.Equal(a.Lo, b.Lo) && slices.Equal(a.Hi, b.Hi) }

func isZero(b api.Box) bool { return len(b.Lo) == 0 && len(b.Hi) == 0 }

// full returns a list of the same value n times.
func full(n, value int) []int { return slices.Repeat([]int{value}, n) }

// contains is what it means that a vector is in a box, for a box and a vector that are valid.
func contains(b api.Box, v []int) bool {
	if len(v) != len(b.Lo) {
		return false
	}
	for i, x := range v {
		if x < b.Lo[i] || b.Hi[i] < x {
			return false
		}
	}
	return true
}

// grid returns all vectors of some coordinates from lo to hi.
func grid(dims, lo, hi int) [][]int {
	if dims == 0 {
		return [][]int{nil}
	}
	var l [][]int
	for _, v := range grid(dims-1, lo, hi) {
		for x := lo; x <= hi; x++ {
			l = append(l, append(slices.Clone(v), x))
		}
	}
	return l
}

// boxes returns all valid boxes of some coordinates from lo to hi.
func boxes(dims, lo, hi int) []api.Box {
	var l []api.Box
	for _, a := range grid(dims, lo, hi) {
		for _, b := range grid(dims, lo, hi) {
			if lessEqual(a, b) {
				l = append(l, boxOf(a, b))
			}
		}
	}
	return l
}

// lessEqual reports whether no coordinate is greater than the other one.
func lessEqual(a, b []int) bool {
	for i := range a {
		if a[i] > b[i] {
			return false
		}
	}
	return true
}

// vectorsIn returns all vectors of a small box.
func vectorsIn(b api.Box) [][]int {
	var l [][]int
	for _, v := range grid(len(b.Lo), slices.Min(b.Lo), slices.Max(b.Hi)) {
		if contains(b, v) {
			l = append(l, v)
		}
	}
	return l
}

// notVectors are lists that are no vectors.
var notVectors = [][]int{
	nil, {}, {1001}, {-1001}, {0, 1001}, {-1001, 0}, {math.MaxInt}, {math.MinInt}, {5, math.MinInt, 5},
	full(api.MaxDims+1, 0), full(1000, 0), append(full(api.MaxDims-1, 0), 1001),
}

// notBoxes returns boxes that are not valid.
func notBoxes() []api.Box {
	l := []api.Box{
		{}, {Lo: []int{0}}, {Hi: []int{0}},
		boxOf([]int{1}, []int{0}), boxOf([]int{0, 3, 0}, []int{0, 2, 0}), boxOf([]int{0, 0, 3}, []int{9, 9, 2}), boxOf([]int{1, 0}, []int{0, 1}),
		boxOf([]int{0}, []int{0, 1}), boxOf([]int{0, 1}, []int{2}), boxOf(full(32, 0), full(31, 0)), boxOf(full(31, 0), full(32, 0)),
		boxOf([]int{-1001}, []int{0}), boxOf([]int{0}, []int{1001}), boxOf([]int{math.MinInt}, []int{math.MaxInt}),
		boxOf([]int{0, 0}, []int{5, 1001}), boxOf([]int{0, -1001}, []int{5, 5}),
	}
	for _, v := range notVectors {
		l = append(l, boxOf(v, v))
	}
	return l
}

func TestValid(t *testing.T) {
	for _, b := range []api.Box{
		boxOf([]int{0}, []int{0}), boxOf([]int{-1}, []int{0}), boxOf([]int{0, 0}, []int{4, 2}), boxOf([]int{7, 7, -9}, []int{7, 8, -9}),
		boxOf([]int{-1000}, []int{1000}), boxOf([]int{1000}, []int{1000}), boxOf([]int{-1000}, []int{-1000}),
		boxOf(full(32, -1000), full(32, 1000)), boxOf(full(32, 3), full(32, 3)),
	} {
		if !Valid(b) {
			t.Errorf("P6.1: Valid(%v) = false", b)
		}
	}
	for i, b := range notBoxes() {
		if Valid(b) {
			t.Errorf("P6.1: Valid(%v) = true (%d)", b, i)
		}
	}
}

// TestValidEverywhere spoils each place of boxes of all numbers of coordinates.
func TestValidEverywhere(t *testing.T) {
	for dims := 1; dims <= api.MaxDims+1; dims++ {
		b := boxOf(full(dims, -2), full(dims, 5))
		if Valid(b) != (dims <= api.MaxDims) {
			t.Errorf("P6.1: a box of %d coordinates", dims)
		}
		if dims > api.MaxDims {
			continue
		}
		for i := range dims {
			for _, x := range []struct {
				lo, hi int
				valid  bool
			}{{-1000, 1000, true}, {5, 5, true}, {6, 5, false}, {-1001, 5, false}, {-2, 1001, false}, {1001, 1001, false}, {-1001, -1001, false}, {1000, 1000, true}, {-1000, -1000, true}} {
				b.Lo[i], b.Hi[i] = x.lo, x.hi
				if Valid(b) != x.valid {
					t.Errorf("P6.1: a box of %d coordinates, from %d to %d at %d", dims, x.lo, x.hi, i)
				}
			}
			b.Lo[i], b.Hi[i] = -2, 5
		}
	}
}

func TestOfExamples(t *testing.T) {
	for i, x := range []struct {
		l    [][]int
		want api.Box
	}{
		{[][]int{{4, 0}, {0, 2}}, boxOf([]int{0, 0}, []int{4, 2})},
		{[][]int{{0, 2}, {4, 0}}, boxOf([]int{0, 0}, []int{4, 2})},
		{[][]int{{7}}, boxOf([]int{7}, []int{7})},
		{[][]int{{-3, 5}}, boxOf([]int{-3, 5}, []int{-3, 5})},
		{[][]int{{1, 2, 3}, {1, 2, 3}, {1, 2, 3}}, boxOf([]int{1, 2, 3}, []int{1, 2, 3})},
		{[][]int{{-1000}, {1000}, {0}}, boxOf([]int{-1000}, []int{1000})},
		{[][]int{{5, 5}, {-5, 6}, {7, -6}, {0, 0}}, boxOf([]int{-5, -6}, []int{7, 6})},
		{[][]int{full(32, 1), full(32, -1)}, boxOf(full(32, -1), full(32, 1))},
	} {
		if got, e := Of(x.l); e != api.OK || !equal(got, x.want) {
			t.Errorf("P6.1: Of %d = %v, %d", i, got, e)
		}
	}
}

func TestOfErrors(t *testing.T) {
	for _, l := range [][][]int{nil, {}, {{1}, {1, 2}}, {{1, 2}, {1}}, {{1}, {2}, {1, 2}}, {{1, 2}, {3, 4}, {5, 6, 7}}, {full(32, 0), full(31, 0)}} {
		if got, e := Of(l); e != api.ErrArg || !isZero(got) {
			t.Errorf("P6.1: Of(%v) = %v, %d", l, got, e)
		}
	}
	for _, v := range notVectors {
		one := full(max(len(v), 1), 0)
		for _, l := range [][][]int{{v}, {v, v}, {one, v}, {v, one}, {one, one, v, one}} {
			if got, e := Of(l); e != api.ErrArg || !isZero(got) {
				t.Errorf("P6.1: Of(%v) = %v, %d", l, got, e)
			}
		}
	}
}

// TestOfIsLeast checks that the box has the vectors, and that none that has them is without one of its vectors.
func TestOfIsLeast(t *testing.T) {
	for dims := 1; dims <= 2; dims++ {
		all, places := boxes(dims, -2, 1), grid(dims, -2, 1)
		for _, a := range places {
			for _, b := range places {
				for _, l := range [][][]int{{a}, {a, b}, {a, b, a}, {a, b, full(dims, 0)}} {
					got, e := Of(l)
					if e != api.OK || !Valid(got) {
						t.Fatalf("P6.1: Of(%v) = %v, %d", l, got, e)
					}
					checkLeast(t, got, l, all)
				}
			}
		}
	}
}

// checkLeast checks that a box has some vectors, and is in each one of all boxes that has them.
func checkLeast(t *testing.T, got api.Box, l [][]int, all []api.Box) {
	t.Helper()
	hasAll := func(b api.Box) bool {
		return !slices.ContainsFunc(l, func(v []int) bool { return !contains(b, v) })
	}
	if !hasAll(got) {
		t.Fatalf("P6.1, P6.6: %v is not around %v", got, l)
	}
	for _, b := range all {
		if hasAll(b) && !(lessEqual(b.Lo, got.Lo) && lessEqual(got.Hi, b.Hi)) {
			t.Fatalf("P6.1: %v around %v is not the least box: there is %v", got, l, b)
		}
	}
}

func TestJoinMeetExamples(t *testing.T) {
	b := boxOf([]int{0, 0}, []int{4, 2})
	for _, x := range []struct {
		a, b, join, meet api.Box
	}{
		{b, b, b, b},
		{b, boxOf([]int{3, -1}, []int{6, 1}), boxOf([]int{0, -1}, []int{6, 2}), boxOf([]int{3, 0}, []int{4, 1})},
		{b, boxOf([]int{5, 0}, []int{5, 0}), boxOf([]int{0, 0}, []int{5, 2}), api.Box{}},
		{b, boxOf([]int{0, 3}, []int{4, 9}), boxOf([]int{0, 0}, []int{4, 9}), api.Box{}},
		{b, boxOf([]int{0, -3}, []int{4, -1}), boxOf([]int{0, -3}, []int{4, 2}), api.Box{}},
		{b, boxOf([]int{4, 2}, []int{9, 9}), boxOf([]int{0, 0}, []int{9, 9}), boxOf([]int{4, 2}, []int{4, 2})},
		{b, boxOf([]int{1, 1}, []int{2, 1}), b, boxOf([]int{1, 1}, []int{2, 1})},
		{boxOf([]int{-1000}, []int{-1000}), boxOf([]int{1000}, []int{1000}), boxOf([]int{-1000}, []int{1000}), api.Box{}},
	} {
		checkJoinMeet(t, x.a, x.b, x.join, x.meet)
		checkJoinMeet(t, x.b, x.a, x.join, x.meet)
	}
}

// checkJoinMeet checks both; a box without coordinates says that the boxes have nothing in common.
func checkJoinMeet(t *testing.T, a, b, join, meet api.Box) {
	t.Helper()
	if got, e := Join(a, b); e != api.OK || !equal(got, join) {
		t.Errorf("P6.1: Join(%v, %v) = %v, %d, want %v", a, b, got, e, join)
	}
	if got, is, e := Meet(a, b); e != api.OK || is == isZero(meet) || !equal(got, meet) {
		t.Errorf("P6.1: Meet(%v, %v) = %v, %v, %d, want %v", a, b, got, is, e, meet)
	}
}

func TestJoinMeetErrors(t *testing.T) {
	one := boxOf([]int{0}, []int{1})
	pairs := [][2]api.Box{{one, boxOf([]int{0, 0}, []int{1, 1})}, {boxOf(full(31, 0), full(31, 0)), boxOf(full(32, 0), full(32, 0))}}
	for _, b := range notBoxes() {
		pairs = append(pairs, [2]api.Box{b, one}, [2]api.Box{b, b}, [2]api.Box{b, boxOf(full(max(len(b.Lo), 1), 0), full(max(len(b.Lo), 1), 0))})
	}
	for _, p := range pairs {
		for range 2 {
			if got, e := Join(p[0], p[1]); e != api.ErrArg || !isZero(got) {
				t.Errorf("P6.1: Join(%v, %v) = %v, %d", p[0], p[1], got, e)
			}
			if got, is, e := Meet(p[0], p[1]); e != api.ErrArg || is || !isZero(got) {
				t.Errorf("P6.1: Meet(%v, %v) = %v, %v, %d", p[0], p[1], got, is, e)
			}
			p[0], p[1] = p[1], p[0]
		}
	}
}

// TestJoinMeetVectors goes through all pairs of small boxes, and all vectors near them.
func TestJoinMeetVectors(t *testing.T) {
	for dims := 1; dims <= 2; dims++ {
		all, places := boxes(dims, -1, 2), grid(dims, -2, 3)
		for _, a := range all {
			for _, b := range all {
				meet, is, e := Meet(a, b)
				join, f := Join(a, b)
				if e != api.OK || f != api.OK {
					t.Fatalf("P6.1: Meet and Join of %v, %v: %d, %d", a, b, e, f)
				}
				common := false
				for _, v := range places {
					both := contains(a, v) && contains(b, v)
					common = common || both
					if is && contains(meet, v) != both || !is && both {
						t.Fatalf("P6.6: %v in Meet(%v, %v) = %v", v, a, b, meet)
					}
				}
				if is != common || is != Valid(meet) || !is && !isZero(meet) {
					t.Fatalf("P6.1: Meet(%v, %v) = %v, %v", a, b, meet, is)
				}
				checkLeast(t, join, append(vectorsIn(a), vectorsIn(b)...), all)
				checkJoinMeet(t, b, a, join, meet) // P6.6: in the other order
			}
		}
	}
}

func TestHasInside(t *testing.T) {
	b := boxOf([]int{0, 0}, []int{4, 2})
	for _, x := range []struct {
		v    []int
		want bool
	}{
		{[]int{4, 2}, true}, {[]int{7, -1}, false}, {[]int{0, 0}, true}, {[]int{1, 1}, true}, {[]int{0, 2}, true}, {[]int{4, 0}, true},
		{[]int{5, 2}, false}, {[]int{4, 3}, false}, {[]int{-1, 0}, false}, {[]int{0, -1}, false},
		{[]int{4}, false}, {[]int{4, 2, 0}, false}, {nil, false}, {[]int{}, false}, {[]int{1001, 1}, false},
	} {
		if Has(b, x.v) != x.want {
			t.Errorf("P6.2: Has(%v, %v) = %v", b, x.v, !x.want)
		}
	}
	for _, n := range notBoxes() {
		dims := max(len(n.Lo), len(n.Hi), 1)
		zero := boxOf(full(dims, 0), full(dims, 0))
		whole := boxOf(full(dims, -1000), full(dims, 1000))
		if Has(n, n.Lo) || Has(n, n.Hi) || Has(n, zero.Lo) || Has(whole, n.Lo) && !Valid(boxOf(n.Lo, n.Lo)) {
			t.Errorf("P6.2: Has of %v", n)
		}
		if Inside(n, n) || Inside(zero, n) || Inside(n, whole) {
			t.Errorf("P6.2: Inside of %v", n)
		}
	}
	if Inside(boxOf([]int{1}, []int{1}), b) || Inside(b, boxOf([]int{-9}, []int{9})) || Inside(b, boxOf(full(3, -9), full(3, 9))) {
		t.Error("P6.2: Inside of boxes of other numbers of coordinates")
	}
	if whole := boxOf(full(32, -1000), full(32, 1000)); !Inside(whole, whole) || !Has(whole, whole.Lo) || !Has(whole, whole.Hi) {
		t.Error("P6.2: the greatest box")
	}
}

// TestInsideVectors compares Inside with a look at all vectors, and Has with its meaning.
func TestInsideVectors(t *testing.T) {
	for dims := 1; dims <= 2; dims++ {
		all, places := boxes(dims, -1, 2), grid(dims, -2, 3)
		for _, a := range all {
			for _, v := range places {
				if Has(a, v) != contains(a, v) {
					t.Fatalf("P6.2: Has(%v, %v)", a, v)
				}
			}
			for _, b := range all {
				missing := slices.ContainsFunc(vectorsIn(a), func(v []int) bool { return !contains(b, v) })
				if Inside(a, b) == missing {
					t.Fatalf("P6.2: Inside(%v, %v) = %v", a, b, !missing)
				}
			}
		}
	}
}

// TestMemory checks that results share no memory with arguments or with one another, and that arguments stay as they are.
func TestMemory(t *testing.T) {
	a, b := boxOf([]int{0, 0}, []int{4, 2}), boxOf([]int{1, 1}, []int{2, 2})
	v := []int{3, -1}
	spoil := func(of string, lists ...[]int) {
		for i, l := range lists {
			for j := range l {
				l[j] = 100 + 10*i + j
			}
			for k, other := range lists {
				if k > i && slices.Max(other) >= 100 {
					t.Errorf("P6.4: lists of a result of %s share memory", of)
				}
			}
			for range cap(l) - len(l) {
				l = append(l, 500) // beyond its length too
			}
		}
		if !equal(a, boxOf([]int{0, 0}, []int{4, 2})) || !equal(b, boxOf([]int{1, 1}, []int{2, 2})) || !slices.Equal(v, []int{3, -1}) {
			t.Errorf("P6.4: an argument of %s has changed", of)
			a, b, v = boxOf([]int{0, 0}, []int{4, 2}), boxOf([]int{1, 1}, []int{2, 2}), []int{3, -1}
		}
	}
	one, _ := Of([][]int{v})
	spoil("Of one", one.Lo, one.Hi)
	two, _ := Of([][]int{v, v})
	spoil("Of two", two.Lo, two.Hi)
	join, _ := Join(a, b)
	spoil("Join", join.Lo, join.Hi)
	itself, _ := Join(a, a)
	spoil("Join", itself.Lo, itself.Hi)
	point := boxOf(v, v)
	same, _ := Join(point, point)
	spoil("Join", same.Lo, same.Hi)
	meet, _, _ := Meet(a, b)
	spoil("Meet", meet.Lo, meet.Hi)
	met, _, _ := Meet(point, point)
	spoil("Meet", met.Lo, met.Hi)
	x, y, _ := Cut(a, 0, 1)
	spoil("Cut", x.Lo, x.Hi, y.Lo, y.Hi)
	x, y, _ = Cut(a, 1, 0)
	spoil("Cut", y.Lo, y.Hi, x.Lo, x.Hi)
	Valid(a)
	Split(a)
	Has(a, v)
	Inside(b, a)
	for _, metric := range metrics {
		Near(metric, a, v)
		Far(metric, a, v)
		Apart(metric, a, b)
	}
	spoil("the others")
}
