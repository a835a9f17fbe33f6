package metric

import (
	"math/rand/v2"
	"testing"

	"antiquary/api"
)

func TestRingExamples(t *testing.T) {
	for _, x := range []struct{ metric, a, t, least, greatest int }{
		{api.MeEuclid, 25, 9, 4, 64},
		{api.MeSum, 25, 9, 16, 34},
		{api.MeMax, 25, 9, 16, 34},
		{api.MeEuclid, 4, 9, 0, 25},
		{api.MeSum, 4, 9, 0, 13},
		{api.MeEuclid, 9, 9, 0, 36},
		{api.MeMax, 9, 9, 0, 18},
		{api.MeSum, 10, 9, 1, 19},
		{api.MeEuclid, 10, 9, 1, 37},
		{api.MeEuclid, 3, 0, 3, 3},
		{api.MeSum, 3, 0, 3, 3},
		{api.MeEuclid, 0, 0, 0, 0},
		{api.MeEuclid, 0, 5, 0, 5},
		{api.MeMax, 0, 5, 0, 5},
		{api.MeSum, 1 << 27, 0, 1 << 27, 1 << 27},
		{api.MeEuclid, 1 << 27, 1, 1<<27 - 23169, 1 << 27},
		{api.MeSum, 1 << 26, 1<<26 - 1, 1, 1<<27 - 1},
		{api.MeMax, 1 << 27, 1 << 27, 0, 1 << 27},
		{api.MeEuclid, 1 << 27, 1 << 27, 0, 1 << 27},
	} {
		if least, greatest := Ring(x.metric, x.a, x.t); least != x.least || greatest != x.greatest {
			t.Errorf("P5.4: Ring(%d, %d, %d) = %d, %d, want %d, %d", x.metric, x.a, x.t, least, greatest, x.least, x.greatest)
		}
	}
}

// scannedRing returns the first and the last key below `end` whose Low with a is at most t.
func scannedRing(metric, a, t, end int) (int, int) {
	least, greatest := -1, -1
	for b := range end {
		if Low(metric, a, b) > t {
			continue
		}
		if least < 0 {
			least = b
		}
		greatest = b
	}
	return least, greatest
}

func TestRingOfAllSmallKeys(t *testing.T) {
	for _, metric := range metrics {
		for a := range 60 {
			for near := range 60 {
				least, greatest := Ring(metric, a, near)
				first, last := scannedRing(metric, a, near, 300)
				if least != first || greatest != last {
					t.Fatalf("P5.4: Ring(%d, %d, %d) = %d, %d, want %d, %d", metric, a, near, least, greatest, first, last)
				}
			}
		}
	}
}

// placesNear returns keys at the ends of an interval, and some others.
func placesNear(r *rand.Rand, least, greatest int) []int {
	var out []int
	for _, end := range []int{0, least, greatest, api.MaxKey, randomKey(r), least + r.IntN(greatest-least+1)} {
		for b := max(end-2, 0); b <= min(end+2, api.MaxKey); b++ {
			out = append(out, b)
		}
	}
	return out
}

func TestRingHasExactlyTheKeysThatAreNear(t *testing.T) {
	r := random()
	forPairs(func(a, near int) {
		for _, metric := range metrics {
			least, greatest := Ring(metric, a, near)
			if !Valid(metric, least) || !Valid(metric, greatest) || least > a || a > greatest {
				t.Fatalf("P5.4: Ring(%d, %d, %d) = %d, %d", metric, a, near, least, greatest)
			}
			for _, b := range placesNear(r, least, greatest) {
				if (least <= b && b <= greatest) != (Low(metric, a, b) <= near) {
					t.Fatalf("P5.10: Ring(%d, %d, %d) = %d, %d, and Low of %d is %d", metric, a, near, least, greatest, b, Low(metric, a, b))
				}
			}
		}
	})
}

func TestGapAndReachExamples(t *testing.T) {
	for _, x := range []struct{ metric, lo, hi, a, gap, reach int }{
		{api.MeEuclid, 9, 16, 25, 1, 81},
		{api.MeEuclid, 9, 16, 10, 0, 51},
		{api.MeEuclid, 9, 16, 4, 1, 36},
		{api.MeEuclid, 9, 16, 8, 1, 46},
		{api.MeEuclid, 9, 16, 9, 0, 49},
		{api.MeEuclid, 9, 16, 16, 0, 64},
		{api.MeEuclid, 9, 16, 17, 1, 65},
		{api.MeSum, 9, 16, 25, 9, 41},
		{api.MeMax, 9, 16, 4, 5, 20},
		{api.MeMax, 9, 16, 12, 0, 28},
		{api.MeSum, 9, 9, 9, 0, 18},
		{api.MeEuclid, 0, 0, 9, 9, 9},
		{api.MeSum, 0, 1 << 27, 5, 0, 1 << 27},
		{api.MeMax, 1 << 27, 1 << 27, 0, 1 << 27, 1 << 27},
		{api.MeEuclid, 1 << 27, 1 << 27, 1 << 27, 0, 1 << 27},
	} {
		if gap := Gap(x.metric, x.lo, x.hi, x.a); gap != x.gap {
			t.Errorf("P5.5: Gap(%d, %d, %d, %d) = %d, want %d", x.metric, x.lo, x.hi, x.a, gap, x.gap)
		}
		if reach := Reach(x.metric, x.lo, x.hi, x.a); reach != x.reach {
			t.Errorf("P5.5: Reach(%d, %d, %d, %d) = %d, want %d", x.metric, x.lo, x.hi, x.a, reach, x.reach)
		}
	}
}

// checkShell compares Gap and Reach with a look at all keys from lo to hi.
func checkShell(t *testing.T, metric, lo, hi, a int) {
	t.Helper()
	gap, reach := Low(metric, a, lo), High(metric, a, lo)
	for b := lo + 1; b <= hi; b++ {
		gap, reach = min(gap, Low(metric, a, b)), max(reach, High(metric, a, b))
	}
	if got := Gap(metric, lo, hi, a); got != gap {
		t.Fatalf("P5.5: Gap(%d, %d, %d, %d) = %d, want %d", metric, lo, hi, a, got, gap)
	}
	if got := Reach(metric, lo, hi, a); got != reach {
		t.Fatalf("P5.5: Reach(%d, %d, %d, %d) = %d, want %d", metric, lo, hi, a, got, reach)
	}
	least, greatest := Ring(metric, a, 0)
	if meets := least <= hi && lo <= greatest; (gap == 0) != meets {
		t.Fatalf("P5.10: Gap(%d, %d, %d, %d) = %d, and the Ring of %d and 0 is from %d to %d", metric, lo, hi, a, gap, a, least, greatest)
	}
}

func TestGapAndReachRule(t *testing.T) {
	for _, metric := range metrics {
		for lo := range 25 {
			for hi := lo; hi < 25; hi++ {
				for a := range 40 {
					checkShell(t, metric, lo, hi, a)
				}
			}
		}
	}
	r := random()
	forPairs(func(lo, a int) {
		for _, metric := range metrics {
			checkShell(t, metric, lo, min(lo+r.IntN(20), api.MaxKey), a)
		}
	})
}

func TestBall(t *testing.T) {
	for _, x := range []struct {
		metric, c, r, s int
		want            bool
	}{
		{api.MeEuclid, 64, 9, 25, true},
		{api.MeEuclid, 65, 9, 25, false},
		{api.MeSum, 34, 9, 25, true},
		{api.MeSum, 35, 9, 25, false},
		{api.MeMax, 34, 25, 9, true},
		{api.MeMax, 35, 25, 9, false},
		{api.MeEuclid, 0, 0, 0, true},
		{api.MeEuclid, 1, 0, 0, false},
		{api.MeEuclid, 0, 9, 100, true},
		{api.MeSum, 1 << 27, 1 << 26, 1 << 26, true},
		{api.MeSum, 1 << 27, 1 << 26, 1<<26 - 1, false},
		{api.MeEuclid, 1 << 27, 1 << 25, 1 << 25, true},
		{api.MeEuclid, 1 << 27, 1 << 25, 1<<25 - 1, false},
		{api.MeEuclid, 1 << 27, 1 << 27, 1 << 27, true},
	} {
		if Ball(x.metric, x.c, x.r, x.s) != x.want {
			t.Errorf("P5.6: Ball(%d, %d, %d, %d) = %v", x.metric, x.c, x.r, x.s, !x.want)
		}
	}
	r := random()
	forPairs(func(a, b int) {
		for _, metric := range metrics {
			high := High(metric, a, b)
			for _, c := range []int{0, high - 1, high, high + 1, randomKey(r), api.MaxKey} {
				if Valid(metric, c) && Ball(metric, c, a, b) != (c <= high) {
					t.Fatalf("P5.6: Ball(%d, %d, %d, %d) = %v", metric, c, a, b, c > high)
				}
			}
		}
	})
}
