package vector

import (
	"math/rand/v2"
	"slices"
	"testing"

	"antiquary/api"
)

var metrics = []int{api.MeSum, api.MeEuclid, api.MeMax}

// norms is P4.3, read literally.
func norms(v []int) (sum, euclid, greatest int) {
	for _, x := range v {
		if x < 0 {
			x = -x
		}
		sum += x
		euclid += x * x
		if x > greatest {
			greatest = x
		}
	}
	return
}

func randomDifference(r *rand.Rand) []int {
	return randomList(r, 1+r.IntN(api.MaxDims), 2*api.MaxCoord)
}

func TestNormExamples(t *testing.T) {
	for _, x := range []struct {
		v                     []int
		sum, euclid, greatest int
	}{
		{[]int{-3, -4, 0}, 7, 25, 4},
		{[]int{0}, 0, 0, 0},
		{make([]int, 32), 0, 0, 0},
		{[]int{5}, 5, 25, 5},
		{[]int{-5}, 5, 25, 5},
		{[]int{1, -9}, 10, 82, 9},
		{[]int{9, -1}, 10, 82, 9},
		{[]int{-9, 1}, 10, 82, 9},
		{[]int{2, 2, -2}, 6, 12, 2},
		{[]int{2000}, 2000, 4000000, 2000},
		{[]int{-2000}, 2000, 4000000, 2000},
		{slices.Repeat([]int{2000}, 32), 64000, 128000000, 2000},
		{slices.Repeat([]int{-2000}, 32), 64000, 128000000, 2000},
		{append(make([]int, 31), -1), 1, 1, 1},
	} {
		for i, want := range []int{x.sum, x.euclid, x.greatest} {
			if got := Norm(metrics[i], x.v); got != want {
				t.Errorf("P4.3: Norm(%d, %v) = %d, want %d", metrics[i], x.v, got, want)
			}
		}
	}
}

func TestNormRule(t *testing.T) {
	r := random()
	for range 20000 {
		v := randomDifference(r)
		before := slices.Clone(v)
		s, e, m := Norm(api.MeSum, v), Norm(api.MeEuclid, v), Norm(api.MeMax, v)
		if sum, euclid, greatest := norms(v); s != sum || e != euclid || m != greatest {
			t.Errorf("P4.3: the norms of %v are %d, %d, %d", v, s, e, m)
		}
		d := len(v)
		if e != Dot(v, v) {
			t.Errorf("P4.9: the norm of %v is %d, and its product with itself %d", v, e, Dot(v, v))
		}
		if m > s || s > d*m || m*m > e || e > m*s || s*s > d*e {
			t.Errorf("P4.9: the norms of %v, %d, %d, %d, do not fit together", v, s, e, m)
		}
		if !slices.Equal(v, before) {
			t.Fatalf("Norm changes %v", before)
		}
	}
}

func TestKeyExamples(t *testing.T) {
	for _, x := range []struct {
		a, b                  []int
		sum, euclid, greatest int
	}{
		{[]int{1, -2, 3}, []int{4, 2, 3}, 7, 25, 4},
		{[]int{10}, []int{9}, 1, 1, 1},
		{[]int{3}, []int{9}, 6, 36, 6},
		{[]int{5}, []int{5}, 0, 0, 0},
		{[]int{-1000}, []int{1000}, 2000, 4000000, 2000},
		{[]int{1, 2}, []int{2, 1}, 2, 2, 1},
		{slices.Repeat([]int{-1000}, 32), slices.Repeat([]int{1000}, 32), 64000, 128000000, 2000},
	} {
		for i, want := range []int{x.sum, x.euclid, x.greatest} {
			if got := Key(metrics[i], x.a, x.b); got != want || got > api.MaxKey {
				t.Errorf("P4.4: Key(%d, %v, %v) = %d, want %d", metrics[i], x.a, x.b, got, want)
			}
		}
	}
}

// checkPair checks what is said of the keys of two vectors.
func checkPair(t *testing.T, a, b []int) {
	t.Helper()
	for _, metric := range metrics {
		key := Key(metric, a, b)
		if key != Norm(metric, Sub(a, b)) {
			t.Fatalf("P4.4: Key(%d, %v, %v) = %d", metric, a, b, key)
		}
		if (key == 0) != slices.Equal(a, b) || key != Key(metric, b, a) || Key(metric, a, a) != 0 {
			t.Fatalf("P4.8: Key(%d, %v, %v) = %d", metric, a, b, key)
		}
		if key < 0 || key > api.MaxKey {
			t.Fatalf("P4.9: Key(%d, %v, %v) = %d", metric, a, b, key)
		}
	}
	if Key(api.MeEuclid, a, b) != Norm(api.MeEuclid, a)+Norm(api.MeEuclid, b)-2*Dot(a, b) {
		t.Fatalf("P4.9: the key of %v and %v, and their norms", a, b)
	}
}

// checkTriangle checks what is said of the keys of three vectors.
func checkTriangle(t *testing.T, a, b, c []int) {
	t.Helper()
	for _, metric := range []int{api.MeSum, api.MeMax} {
		if Key(metric, a, c) > Key(metric, a, b)+Key(metric, b, c) {
			t.Fatalf("P4.8: Key(%d, ..) of %v, %v, %v", metric, a, b, c)
		}
	}
	x, y, z := Key(api.MeEuclid, a, c), Key(api.MeEuclid, a, b), Key(api.MeEuclid, b, c)
	if rest := x - y - z; rest > 0 && rest*rest > 4*y*z {
		t.Fatalf("P4.8: the squares %d, %d, %d of %v, %v, %v", x, y, z, a, b, c)
	}
}

func TestKeysOfAllSmallVectors(t *testing.T) {
	for _, l := range [][][]int{grid(1, 6), grid(2, 2), grid(3, 1)} {
		for _, a := range l {
			for _, b := range l {
				checkPair(t, a, b)
				for _, c := range l {
					checkTriangle(t, a, b, c)
				}
			}
		}
	}
}

func TestKeyRule(t *testing.T) {
	r := random()
	for range 20000 {
		a, b := pair(r)
		before, other := slices.Clone(a), slices.Clone(b)
		checkPair(t, a, b)
		checkTriangle(t, a, b, randomVector(r, len(a)))
		checkTriangle(t, a, Mean([][]int{a, b}), b) // nearly in one line
		sum, euclid, greatest := norms(Sub(a, b))
		for i, want := range []int{sum, euclid, greatest} {
			if got := Key(metrics[i], a, b); got != want {
				t.Errorf("P4.4: Key(%d, %v, %v) = %d, want %d", metrics[i], a, b, got, want)
			}
		}
		if !slices.Equal(a, before) || !slices.Equal(b, other) {
			t.Fatalf("Key changes %v or %v", before, other)
		}
	}
}
