package metric

import (
	"math"
	"math/rand/v2"
	"testing"

	"antiquary/api"
)

var metrics = []int{api.MeSum, api.MeEuclid, api.MeMax}

func random() *rand.Rand { return rand.New(rand.NewPCG(5, 11)) }

// randomKey returns a key: often a small one, one of the greatest, or a square or its neighbour.
func randomKey(r *rand.Rand) int {
	switch r.IntN(8) {
	case 0:
		return r.IntN(4)
	case 1, 2:
		return r.IntN(200)
	case 3:
		return api.MaxKey - r.IntN(4)
	case 4, 5:
		d := 1 + r.IntN(11584)
		return d*d + r.IntN(3) - 1
	default:
		return r.IntN(api.MaxKey + 1)
	}
}

// edgeKeys are keys at which something ends or is a square.
var edgeKeys = []int{
	0, 1, 2, 3, 4, 5, 8, 9, 10, 15, 16, 17, 24, 25, 26, 63, 64, 65,
	1<<24 - 1, 1 << 24, 1<<24 + 1, 1<<25 - 1, 1 << 25, 1<<25 + 1, 1<<26 - 1, 1 << 26, 1<<26 + 1,
	11584*11584 - 1, 11584 * 11584, 11584*11584 + 1, 5792 * 5792, 5793 * 5793,
	api.MaxKey/3 - 1, api.MaxKey / 3, api.MaxKey/3 + 1, api.MaxKey - 9, api.MaxKey - 1, api.MaxKey,
}

// forPairs calls check with all small keys, all edge keys, and many others.
func forPairs(check func(a, b int)) {
	for a := range 100 {
		for b := range 100 {
			check(a, b)
		}
	}
	for _, a := range edgeKeys {
		for _, b := range edgeKeys {
			check(a, b)
		}
	}
	r := random()
	for range 20000 {
		a := randomKey(r)
		check(a, randomKey(r))
		check(a, min(a+r.IntN(5), api.MaxKey))
	}
}

func TestValid(t *testing.T) {
	for _, metric := range []int{api.MeSum, api.MeEuclid, api.MeMax, 0, -1, 4, 5, 1<<32 + 1, math.MinInt, math.MaxInt} {
		known := metric == 1 || metric == 2 || metric == 3
		for _, key := range []int{0, 1, 7, 1<<27 - 1, 1 << 27} {
			if Valid(metric, key) != known {
				t.Errorf("P5.1: Valid(%d, %d) = %v", metric, key, !known)
			}
		}
		for _, key := range []int{-1, -2, 1<<27 + 1, 1 << 28, 1 << 32, math.MinInt, math.MaxInt} {
			if Valid(metric, key) {
				t.Errorf("P5.1: Valid(%d, %d), which is no key", metric, key)
			}
		}
	}
}

func TestIsqrtExamples(t *testing.T) {
	for _, x := range []struct{ n, root int }{
		{35, 5}, {36, 6}, {-1, 0}, {0, 0}, {1, 1}, {2, 1}, {3, 1}, {4, 2},
		{-2, 0}, {-36, 0}, {math.MinInt, 0},
		{1<<56 - 1, 1<<28 - 1}, {1 << 56, 1 << 28},
		{1<<60 - 1, 1<<30 - 1}, {1 << 60, 1 << 30}, {1<<60 + 1, 1 << 30},
		{(1<<30 + 1) * (1<<30 + 1), 1 << 30}, {1 << 61, 1 << 30}, {1 << 62, 1 << 30}, {math.MaxInt, 1 << 30},
	} {
		if got := Isqrt(x.n); got != x.root {
			t.Errorf("P5.1: Isqrt(%d) = %d, want %d", x.n, got, x.root)
		}
	}
}

func TestIsqrtRule(t *testing.T) {
	check := func(n int) {
		if n < 0 || n > 1<<60 {
			return
		}
		if root := Isqrt(n); root < 0 || root > 1<<30 || root*root > n || (root+1)*(root+1) <= n {
			t.Fatalf("P5.1: Isqrt(%d) = %d", n, root)
		}
	}
	for n := range 1 << 17 {
		check(n)
	}
	for bit := range 61 {
		for by := -3; by <= 3; by++ {
			check(1<<bit + by)
			check(3<<bit + by)
		}
	}
	r := random()
	for range 50000 {
		root := r.IntN(1<<30 + 1)
		for by := -2; by <= 2; by++ {
			check(root*root + by)
			check(root*root + 2*root + by)
		}
		check(r.IntN(1 << 60))
		check(r.IntN(1 << (1 + r.IntN(60))))
	}
}

func TestBoundExamples(t *testing.T) {
	for _, x := range []struct{ metric, a, b, low, high int }{
		{api.MeSum, 9, 25, 16, 34},
		{api.MeMax, 9, 25, 16, 34},
		{api.MeEuclid, 9, 25, 4, 64},
		{api.MeEuclid, 2, 3, 1, 9},
		{api.MeEuclid, 0, 0, 0, 0},
		{api.MeEuclid, 0, 5, 5, 5},
		{api.MeEuclid, 1, 1, 0, 4},
		{api.MeEuclid, 1, 2, 1, 5},
		{api.MeSum, 0, 5, 5, 5},
		{api.MeMax, 0, 0, 0, 0},
		{api.MeSum, 1 << 26, 1 << 26, 0, 1 << 27},
		{api.MeSum, 1 << 26, 1<<26 + 1, 1, 1 << 27},
		{api.MeMax, 1 << 26, 1<<26 - 1, 1, 1<<27 - 1},
		{api.MeEuclid, 1 << 25, 1 << 25, 0, 1 << 27},
		{api.MeEuclid, 1 << 25, 1<<25 - 1, 1, 1<<27 - 3},
		{api.MeEuclid, 1 << 25, 1<<25 + 1, 1, 1 << 27},
		{api.MeSum, 1 << 27, 1 << 27, 0, 1 << 27},
		{api.MeEuclid, 1 << 27, 1 << 27, 0, 1 << 27},
		{api.MeMax, 1 << 27, 0, 1 << 27, 1 << 27},
		{api.MeEuclid, 0, 1 << 27, 1 << 27, 1 << 27},
	} {
		if low, high := Low(x.metric, x.a, x.b), High(x.metric, x.a, x.b); low != x.low || high != x.high {
			t.Errorf("P5.2: Low and High(%d, %d, %d) = %d, %d, want %d, %d", x.metric, x.a, x.b, low, high, x.low, x.high)
		}
	}
}

// isRoot reports whether a number is the root of another one, of at most 2^58.
func isRoot(root, n int) bool { return root >= 0 && root*root <= n && (root+1)*(root+1) > n }

// swing returns the root of 4ab, which it looks for bit by bit.
func swing(a, b int) int {
	root := 0
	for bit := 1 << 29; bit > 0; bit /= 2 {
		if (root+bit)*(root+bit) <= 4*a*b {
			root += bit
		}
	}
	return root
}

func TestBoundRule(t *testing.T) {
	forPairs(func(a, b int) {
		for _, metric := range []int{api.MeSum, api.MeMax} {
			if low := Low(metric, a, b); low < 0 || low != a-b && low != b-a {
				t.Fatalf("P5.2: Low(%d, %d, %d) = %d", metric, a, b, low)
			}
			if high := High(metric, a, b); high != min(a+b, 1<<27) {
				t.Fatalf("P5.2: High(%d, %d, %d) = %d", metric, a, b, high)
			}
		}
		if low := Low(api.MeEuclid, a, b); !isRoot(a+b-low, 4*a*b) {
			t.Fatalf("P5.2: Low(MeEuclid, %d, %d) = %d", a, b, low)
		}
		if high := High(api.MeEuclid, a, b); high != min(a+b+swing(a, b), 1<<27) {
			t.Fatalf("P5.2: High(MeEuclid, %d, %d) = %d", a, b, high)
		}
	})
}

func TestBoundsAreSymmetricKeys(t *testing.T) {
	forPairs(func(a, b int) {
		for _, metric := range metrics {
			low, high := Low(metric, a, b), High(metric, a, b)
			if !Valid(metric, low) || !Valid(metric, high) || low > high {
				t.Fatalf("P5.2: Low and High(%d, %d, %d) = %d, %d", metric, a, b, low, high)
			}
			if low != Low(metric, b, a) || high != High(metric, b, a) {
				t.Fatalf("P5.8: Low or High(%d, %d, %d) is not symmetric", metric, a, b)
			}
			if (low == 0) != (a == b) {
				t.Fatalf("P5.8: Low(%d, %d, %d) = %d", metric, a, b, low)
			}
		}
	})
}

func TestBoundsGrow(t *testing.T) {
	check := func(metric, a, b, c int) {
		if b > c {
			b, c = c, b
		}
		if High(metric, a, b) > High(metric, a, c) || High(metric, b, a) > High(metric, c, a) {
			t.Fatalf("P5.8: High(%d, ..) of %d and %d is more than that of %d", metric, a, b, c)
		}
		if a <= b && Low(metric, a, b) > Low(metric, a, c) || c <= a && Low(metric, a, c) > Low(metric, a, b) {
			t.Fatalf("P5.8: Low(%d, ..) of %d, and %d or %d", metric, a, b, c)
		}
	}
	r := random()
	forPairs(func(a, b int) {
		for _, metric := range metrics {
			check(metric, a, b, min(b+1, api.MaxKey))
			check(metric, a, b, randomKey(r))
		}
	})
}

// keyOf returns the key of a distance.
func keyOf(metric, distance int) int {
	if metric == api.MeEuclid {
		return distance * distance
	}
	return distance
}

func checkLine(t *testing.T, metric, d, e int) {
	t.Helper()
	a, b := keyOf(metric, d), keyOf(metric, e)
	if !Valid(metric, a) || !Valid(metric, b) {
		return
	}
	if low := Low(metric, a, b); low != keyOf(metric, d-e) && low != keyOf(metric, e-d) || low < 0 {
		t.Fatalf("P5.9: Low(%d, %d, %d) = %d", metric, a, b, low)
	}
	if high := High(metric, a, b); high != min(keyOf(metric, d+e), api.MaxKey) {
		t.Fatalf("P5.9: High(%d, %d, %d) = %d", metric, a, b, high)
	}
}

func TestPointsOnALineReachBothBounds(t *testing.T) {
	r := random()
	for _, metric := range metrics {
		for d := range 300 {
			for e := range 300 {
				checkLine(t, metric, d, e)
			}
		}
		for range 20000 {
			checkLine(t, metric, r.IntN(11586), r.IntN(11586))
			checkLine(t, metric, r.IntN(api.MaxKey+1), r.IntN(api.MaxKey+1))
		}
	}
}

func TestTriangle(t *testing.T) {
	for _, x := range []struct {
		metric, a, b, c int
		want            bool
	}{
		{api.MeEuclid, 9, 25, 64, true},
		{api.MeEuclid, 9, 25, 65, false},
		{api.MeEuclid, 9, 25, 3, false},
		{api.MeEuclid, 9, 25, 4, true},
		{api.MeSum, 9, 25, 15, false},
		{api.MeSum, 9, 25, 16, true},
		{api.MeMax, 9, 25, 34, true},
		{api.MeMax, 9, 25, 35, false},
		{api.MeMax, 0, 0, 0, true},
		{api.MeEuclid, 0, 0, 1, false},
		{api.MeEuclid, 1 << 27, 1 << 27, 1 << 27, true},
	} {
		if Triangle(x.metric, x.a, x.b, x.c) != x.want {
			t.Errorf("P5.3: Triangle(%d, %d, %d, %d) = %v", x.metric, x.a, x.b, x.c, !x.want)
		}
	}
	r := random()
	forPairs(func(a, b int) {
		for _, metric := range metrics {
			low, high := Low(metric, a, b), High(metric, a, b)
			for _, c := range []int{0, 1, low - 1, low, low + 1, (low + high) / 2, high - 1, high, high + 1, randomKey(r), api.MaxKey} {
				if Valid(metric, c) && Triangle(metric, a, b, c) != (low <= c && c <= high) {
					t.Fatalf("P5.3: Triangle(%d, %d, %d, %d) = %v", metric, a, b, c, low > c || c > high)
				}
			}
		}
	})
}

func TestTrianglesDoNotDependOnTheOrder(t *testing.T) {
	check := func(metric, a, b, c int) {
		want := Triangle(metric, a, b, c)
		if Triangle(metric, b, a, c) != want || Triangle(metric, a, c, b) != want || Triangle(metric, c, b, a) != want {
			t.Fatalf("P5.3: Triangle(%d, ..) of %d, %d, %d depends on the order", metric, a, b, c)
		}
	}
	r := random()
	for _, metric := range metrics {
		for a := range 40 {
			for b := range 40 {
				for c := range 40 {
					check(metric, a, b, c)
				}
			}
		}
		for range 20000 {
			a, b := randomKey(r), randomKey(r)
			check(metric, a, b, randomKey(r))
			check(metric, a, b, Low(metric, a, b))
			check(metric, a, b, High(metric, a, b))
		}
	}
}

// Nothing is specified of these arguments but that calls return.
func TestOtherArguments(t *testing.T) {
	odd := []int{math.MinInt, math.MinInt + 1, -1 << 31, -1, 0, 1, 7, api.MaxKey + 1, 1 << 31, 1 << 60, math.MaxInt - 1, math.MaxInt}
	for _, metric := range []int{math.MinInt, -1, 0, 1, 2, 3, 4, math.MaxInt} {
		for _, a := range odd {
			for _, b := range odd {
				Low(metric, a, b)
				High(metric, a, b)
				Ring(metric, a, b)
				for _, c := range odd {
					Triangle(metric, a, b, c)
					Gap(metric, a, b, c)
					Reach(metric, a, b, c)
					Ball(metric, a, b, c)
				}
			}
		}
	}
}
