package vector

import (
	"math"
	"math/rand/v2"
	"slices"
	"testing"

	"antiquary/api"
)

func random() *rand.Rand { return rand.New(rand.NewPCG(4, 11)) }

// randomList returns n integers from -most to most: the extremes among them, and many that are small.
func randomList(r *rand.Rand, n, most int) []int {
	l := make([]int, n)
	for i := range l {
		switch r.IntN(8) {
		case 0:
			l[i] = most
		case 1:
			l[i] = -most
		case 2, 3:
			l[i] = r.IntN(7) - 3
		default:
			l[i] = r.IntN(2*most+1) - most
		}
	}
	return l
}

func randomVector(r *rand.Rand, n int) []int { return randomList(r, n, api.MaxCoord) }

// pair returns two vectors that are alike, of any number of coordinates; some differ little.
func pair(r *rand.Rand) ([]int, []int) {
	n := 1 + r.IntN(api.MaxDims)
	a := randomVector(r, n)
	if r.IntN(4) > 0 {
		return a, randomVector(r, n)
	}
	b := slices.Clone(a)
	b[r.IntN(n)] = r.IntN(2*api.MaxCoord+1) - api.MaxCoord
	return a, b
}

// grid returns all vectors with n coordinates from -most to most.
func grid(n, most int) [][]int {
	if n == 0 {
		return [][]int{nil}
	}
	var out [][]int
	for _, v := range grid(n-1, most) {
		for x := -most; x <= most; x++ {
			out = append(out, append(slices.Clip(v), x))
		}
	}
	return out
}

// isVector is P4.1, read literally.
func isVector(v []int) bool {
	return len(v) >= 1 && len(v) <= 32 && !slices.ContainsFunc(v, func(x int) bool { return x < -1000 || x > 1000 })
}

// farOff are integers that are no coordinates.
var farOff = []int{1001, -1001, 1002, 2000, -2000, 1 << 32, -1 << 32, 1<<32 + 5, math.MaxInt, math.MinInt, math.MinInt + 1}

// odd returns lists that are no vectors.
func odd() [][]int {
	out := [][]int{nil, {}, make([]int, 33), make([]int, 34), make([]int, 64), make([]int, 1000)}
	for _, n := range []int{1, 2, 3, 31, 32} {
		for at := range n {
			for _, x := range farOff {
				v := make([]int, n)
				v[at] = x
				out = append(out, v)
			}
		}
	}
	return out
}

func TestValid(t *testing.T) {
	for n := range 40 {
		for _, x := range []int{0, 1, -1, 999, -999, 1000, -1000} {
			v := slices.Repeat([]int{x}, n)
			if Valid(v) != (n >= 1 && n <= 32) {
				t.Errorf("P4.1: Valid of %d times %d: %v", n, x, Valid(v))
			}
		}
	}
	for _, v := range odd() {
		if Valid(v) {
			t.Errorf("P4.1: Valid(%v)", v)
		}
	}
	r := random()
	for range 20000 {
		v := randomList(r, 1+r.IntN(33), api.MaxCoord+r.IntN(2))
		if Valid(v) != isVector(v) {
			t.Errorf("P4.1: Valid(%v) = %v", v, Valid(v))
		}
	}
}

func TestAlike(t *testing.T) {
	r := random()
	for n := range 40 {
		for m := range 40 {
			a, b := randomVector(r, n), randomVector(r, m)
			if Alike(a, b) != (n == m && n >= 1 && n <= 32) {
				t.Errorf("P4.1: Alike of %d and %d coordinates: %v", n, m, Alike(a, b))
			}
		}
	}
	for _, v := range odd() {
		other := make([]int, len(v))
		if Alike(v, other) || Alike(other, v) || Alike(v, v) || Alike(v, []int{1}) || Alike([]int{1}, v) {
			t.Errorf("P4.1: %v, which is no vector, is alike", v)
		}
	}
}

func TestSubAndDotExamples(t *testing.T) {
	for _, x := range []struct {
		a, b, sub []int
		dot       int
	}{
		{[]int{1, -2, 3}, []int{4, 2, 3}, []int{-3, -4, 0}, 9},
		{[]int{4, 2, 3}, []int{1, -2, 3}, []int{3, 4, 0}, 9},
		{[]int{0}, []int{0}, []int{0}, 0},
		{[]int{1000}, []int{-1000}, []int{2000}, -1000000},
		{[]int{-1000}, []int{1000}, []int{-2000}, -1000000},
		{[]int{0, 1}, []int{1, 0}, []int{-1, 1}, 0},
		{slices.Repeat([]int{1000}, 32), slices.Repeat([]int{-1000}, 32), slices.Repeat([]int{2000}, 32), -32000000},
	} {
		if got := Sub(x.a, x.b); !slices.Equal(got, x.sub) {
			t.Errorf("P4.2: Sub(%v, %v) = %v", x.a, x.b, got)
		}
		if got := Dot(x.a, x.b); got != x.dot {
			t.Errorf("P4.2: Dot(%v, %v) = %d", x.a, x.b, got)
		}
	}
	for _, x := range []struct {
		a, b []int
		dot  int
	}{
		{[]int{2000}, []int{2000}, 4000000},
		{slices.Repeat([]int{2000}, 32), slices.Repeat([]int{2000}, 32), 128000000},
		{slices.Repeat([]int{-2000}, 32), slices.Repeat([]int{2000}, 32), -128000000},
	} {
		if got := Dot(x.a, x.b); got != x.dot {
			t.Errorf("P4.2: Dot of the differences %v and %v is %d", x.a, x.b, got)
		}
	}
}

func TestSubAndDotRule(t *testing.T) {
	r := random()
	for range 20000 {
		a, b := pair(r)
		sub, dot := Sub(a, b), 0
		if len(sub) != len(a) {
			t.Fatalf("P4.2: Sub(%v, %v) = %v", a, b, sub)
		}
		for i := range a {
			if sub[i] != a[i]-b[i] {
				t.Errorf("P4.2: Sub(%v, %v) = %v", a, b, sub)
			}
			dot += a[i] * b[i]
		}
		if Dot(a, b) != dot || Dot(b, a) != dot {
			t.Errorf("P4.2: Dot(%v, %v) = %d, want %d", a, b, Dot(a, b), dot)
		}
		c, d := randomList(r, len(a), 2000), randomList(r, len(a), 2000)
		dot = 0
		for i := range c {
			dot += c[i] * d[i]
		}
		if Dot(c, d) != dot {
			t.Errorf("P4.2: Dot of the differences %v and %v is %d, want %d", c, d, Dot(c, d), dot)
		}
	}
}

func TestMeanExamples(t *testing.T) {
	top, bottom := slices.Repeat([]int{1000}, 32), slices.Repeat([]int{-1000}, 32)
	for _, x := range []struct {
		l    [][]int
		want []int
	}{
		{[][]int{{1, -2, 3}, {4, 2, 3}}, []int{2, 0, 3}},
		{[][]int{{-1}, {0}}, []int{-1}},
		{[][]int{{0}, {1}}, []int{0}},
		{[][]int{{-2}, {-1}}, []int{-2}},
		{[][]int{{-3}, {-3}}, []int{-3}},
		{[][]int{{-1}, {0}, {0}}, []int{-1}},
		{[][]int{{-1}, {-1}, {0}}, []int{-1}},
		{[][]int{{-1}, {-1}, {-1}}, []int{-1}},
		{[][]int{{1}, {1}, {0}}, []int{0}},
		{[][]int{{7, -7}}, []int{7, -7}},
		{[][]int{top, bottom}, make([]int, 32)},
		{[][]int{top, top}, top},
		{[][]int{bottom, bottom, bottom}, bottom},
	} {
		if got := Mean(x.l); !slices.Equal(got, x.want) {
			t.Errorf("P4.5: Mean(%v) = %v", x.l, got)
		}
	}
}

// isMean reports whether m is a sum divided by n, rounded down: the greatest integer of which n are not more than the sum.
func isMean(m, sum, n int) bool { return n*m <= sum && n*(m+1) > sum }

func TestMeanRule(t *testing.T) {
	r := random()
	for range 5000 {
		n := 1 + r.IntN(api.MaxDims)
		l := make([][]int, 1+r.IntN(12))
		for i := range l {
			l[i] = randomVector(r, n)
		}
		mean := Mean(l)
		if len(mean) != n || !Alike(mean, l[0]) {
			t.Fatalf("P4.5: Mean(%v) = %v", l, mean)
		}
		for i, m := range mean {
			var column []int
			sum := 0
			for _, v := range l {
				column = append(column, v[i])
				sum += v[i]
			}
			if !isMean(m, sum, len(l)) {
				t.Errorf("P4.5: Mean(%v) = %v", l, mean)
			}
			if m < slices.Min(column) || m > slices.Max(column) {
				t.Errorf("P4.10: Mean(%v) = %v", l, mean)
			}
		}
		r.Shuffle(len(l), func(i, j int) { l[i], l[j] = l[j], l[i] })
		if other := Mean(l); !slices.Equal(other, mean) {
			t.Errorf("P4.5: Mean depends on the order: %v, %v", mean, other)
		}
	}
}

func TestMeanOfMany(t *testing.T) {
	l := make([][]int, 1<<20)
	for i := range l {
		l[i] = []int{-1000, 1000, 0, 0}
	}
	l[5] = []int{-1000, 999, 1, -1}
	if mean := Mean(l); !slices.Equal(mean, []int{-1000, 999, 0, -1}) {
		t.Error("P4.5: the mean of 2^20 vectors:", mean)
	}
}

// spoil overwrites a result, with all that its memory has room for.
func spoil(l []int) {
	for i := range l[:cap(l)] {
		l[:cap(l)][i] = 77
	}
}

func TestResultsAreNewMemory(t *testing.T) {
	room := []int{1, -2, 3, 4, 5}
	a, b := room[:3], []int{4, 2, 3}
	for i, call := range []func() []int{
		func() []int { return Sub(a, b) },
		func() []int { return Sub(a, a) },
		func() []int { return Mean([][]int{a}) },
		func() []int { return Mean([][]int{a, b}) },
		func() []int { return Mean([][]int{a, a, a}) },
	} {
		first := call()
		want := slices.Clone(first)
		spoil(first)
		if second := call(); !slices.Equal(second, want) {
			t.Errorf("result %d shares memory with an earlier one: %v", i, second)
		}
		if !slices.Equal(room, []int{1, -2, 3, 4, 5}) || !slices.Equal(b, []int{4, 2, 3}) {
			t.Fatalf("call %d changes its arguments, or its result shares memory with them", i)
		}
	}
}

// Nothing is specified of these arguments but that calls return.
func TestOtherArguments(t *testing.T) {
	lists := append(odd(), []int{1}, []int{1, 2}, []int{math.MinInt, math.MinInt})
	for _, a := range lists {
		for _, b := range [][]int{nil, {1}, {5, 6}, {math.MinInt, math.MaxInt}, make([]int, 33), a} {
			Sub(a, b)
			Sub(b, a)
			Dot(a, b)
			Dot(b, a)
			for metric := range 5 {
				Key(metric, a, b)
				Key(metric, b, a)
			}
			Mean([][]int{a, b})
			Mean([][]int{b, a})
			Compare(a, b)
		}
		for _, metric := range []int{-1, 0, 4, math.MinInt, math.MaxInt} {
			Norm(metric, a)
			Key(metric, a, a)
		}
	}
	if mean := Mean(nil); len(mean) != 0 {
		t.Error("the mean of nothing:", mean)
	}
}
