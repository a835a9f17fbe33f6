package metric

import (
	"math/rand/v2"
	"testing"

	"antiquary/api"
	"antiquary/vector"
)

// grid returns all vectors with n coordinates from -most to most.
func grid(n, most int) [][]int {
	if n == 0 {
		return [][]int{nil}
	}
	var out [][]int
	for _, v := range grid(n-1, most) {
		for x := -most; x <= most; x++ {
			out = append(out, append(v[:len(v):len(v)], x))
		}
	}
	return out
}

func randomVector(r *rand.Rand, n, most int) []int {
	v := make([]int, n)
	for i := range v {
		switch r.IntN(4) {
		case 0:
			v[i] = most
		case 1:
			v[i] = -most
		default:
			v[i] = r.IntN(2*most+1) - most
		}
	}
	return v
}

// checkVectors checks what is said of the keys of three vectors.
func checkVectors(t *testing.T, metric int, p, q, r []int) {
	t.Helper()
	a, b, c := vector.Key(metric, p, q), vector.Key(metric, q, r), vector.Key(metric, p, r)
	if low, high := Low(metric, a, b), High(metric, a, b); low > c || c > high {
		t.Fatalf("P5.7: the key %d of %v and %v is %d, not from %d to %d, by %v", metric, p, r, c, low, high, q)
	}
	if !Triangle(metric, a, b, c) {
		t.Fatalf("P5.7: the keys %d of %v, %v, %v, %d, %d and %d, are no triangle", metric, p, q, r, a, b, c)
	}
	least, greatest := Ring(metric, a, c)
	if b < least || b > greatest {
		t.Fatalf("P5.10: the key %d of %v and %v is %d, not in the ring from %d to %d, by %v", metric, q, r, b, least, greatest, p)
	}
	for _, more := range []int{0, 1, 50, api.MaxKey} {
		if !Ball(metric, c, min(a+more, api.MaxKey), b) || !Ball(metric, c, a, min(b+more, api.MaxKey)) {
			t.Fatalf("P5.11: the balls %d around %v and %v do not meet at %v", metric, p, r, q)
		}
	}
}

func TestAllSmallVectors(t *testing.T) {
	for _, metric := range metrics {
		for _, l := range [][][]int{grid(1, 8), grid(2, 2), grid(3, 1)} {
			for _, p := range l {
				for _, q := range l {
					for _, r := range l {
						checkVectors(t, metric, p, q, r)
					}
				}
			}
		}
	}
}

func TestVectorsUpToTheLimits(t *testing.T) {
	r := random()
	for range 20000 {
		n := 1 + r.IntN(api.MaxDims)
		most := []int{1, 10, api.MaxCoord}[r.IntN(3)]
		p, q := randomVector(r, n, most), randomVector(r, n, most)
		other := randomVector(r, n, most)
		between := vector.Mean([][]int{p, q}) // nearly in one line with both
		for _, metric := range metrics {
			checkVectors(t, metric, p, q, other)
			checkVectors(t, metric, p, between, q)
			checkVectors(t, metric, between, p, q)
			checkVectors(t, metric, p, q, p)
			checkVectors(t, metric, p, p, q)
		}
	}
}

// Vectors on a line show that no greater Low and no less High would do.
func TestVectorsOnALine(t *testing.T) {
	for _, metric := range metrics {
		for d := range 60 {
			for e := range 60 {
				a, b := vector.Key(metric, []int{0}, []int{d}), vector.Key(metric, []int{0}, []int{e})
				if low := vector.Key(metric, []int{d}, []int{e}); Low(metric, a, b) != low {
					t.Fatalf("P5.9: Low(%d, %d, %d) = %d, want %d", metric, a, b, Low(metric, a, b), low)
				}
				if high := vector.Key(metric, []int{-d}, []int{e}); High(metric, a, b) != high {
					t.Fatalf("P5.9: High(%d, %d, %d) = %d, want %d", metric, a, b, High(metric, a, b), high)
				}
			}
		}
	}
}
