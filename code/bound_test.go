package code

import (
	"math/big"
	"testing"

	"antiquary/api"
	"antiquary/metric"
)

// ends are Low and High of two keys, with a root by math/big.
func ends(m, x, y int) (int, int) {
	low, high := max(x-y, y-x), x+y
	if m == api.MeEuclid {
		root := int(new(big.Int).Sqrt(big.NewInt(4 * int64(x) * int64(y))).Int64())
		low, high = x+y-root, x+y+root
	}
	return low, min(high, 1<<27)
}

func TestBounds(t *testing.T) {
	r := random()
	check := func(x, y int) {
		t.Helper()
		for _, m := range metrics {
			low, high := Bounds(m, x, y)
			if low != metric.Low(m, x, y) || high != metric.High(m, x, y) {
				t.Errorf("P8.4: Bounds(%d, %d, %d) = %d, %d are not those of layer 5", m, x, y, low, high)
			}
			if wantLow, wantHigh := ends(m, x, y); low != wantLow || high != wantHigh {
				t.Errorf("P8.4: Bounds(%d, %d, %d) = %d, %d, want %d, %d", m, x, y, low, high, wantLow, wantHigh)
			}
		}
	}
	for x := range 60 {
		for y := range 60 {
			check(x, y)
		}
	}
	most := api.MaxKey
	for _, x := range []int{0, 1, 2, most/4 - 1, most / 4, most/4 + 1, most / 2, most - 1, most} {
		for _, y := range []int{0, 1, 2, most/4 - 1, most / 4, most/4 + 1, most / 2, most - 1, most} {
			check(x, y)
		}
	}
	for range 5000 {
		check(r.IntN(most+1), r.IntN(most+1)>>r.IntN(28))
	}
}

// checkBounded checks P8.6 for a query and a vector.
func checkBounded(t *testing.T, b api.Codebook, m int, q, v []int) {
	t.Helper()
	sum, residual := Sum(m, Table(b, m, q), Encode(b, m, v)), Residual(b, m, v)
	low, high := Bounds(m, sum, residual)
	if key := keyOf(m, q, v); key < low || key > high {
		t.Fatalf("P8.6: the key %d of %v and %v is not from %d to %d (%v, metric %d)", key, q, v, low, high, b, m)
	}
	if residual == 0 && low != high {
		t.Fatalf("P8.6: Bounds(%d, %d, 0) are %d and %d", m, sum, low, high)
	}
}

// checkNearest checks P8.8 for a vector and a code.
func checkNearest(t *testing.T, b api.Codebook, m int, v, code []int) {
	t.Helper()
	decoded, e := Decode(b, code)
	if e != api.OK {
		t.Fatalf("P8.2: Decode(%v, %v) is %d", b, code, e)
	}
	if key, least := keyOf(m, v, decoded), Residual(b, m, v); key < least {
		t.Fatalf("P8.8: %v is nearer to %v than what its code stands for: %d, not %d (%v, metric %d)", decoded, v, key, least, b, m)
	}
	if again := Residual(b, m, decoded); again != 0 {
		t.Fatalf("P8.8: the Residual of %v is %d (%v, metric %d)", decoded, again, b, m)
	}
	if again, e := Decode(b, Encode(b, m, decoded)); e != api.OK || keyOf(m, again, decoded) != 0 {
		t.Fatalf("P8.8: the code of %v stands for %v, %d (%v, metric %d)", decoded, again, e, b, m)
	}
}

// TestSmall has all vectors of small grids.
func TestSmall(t *testing.T) {
	books := []api.Codebook{
		{Dims: 2, Cuts: []int{0}, Words: [][][]int{{{0, 0}, {2, 1}, {-2, 2}}}},
		{Dims: 2, Cuts: []int{0, 1}, Words: [][][]int{{{1}, {-1}}, {{0}, {0}, {2}}}},
		{Dims: 3, Cuts: []int{0, 2}, Words: [][][]int{{{0, 0}, {2, -2}}, {{1}}}},
	}
	for _, b := range books {
		all := grid(b.Dims, -2, 2)
		codes := allCodes(b)
		for _, m := range metrics {
			for _, v := range all {
				for _, q := range all {
					checkBounded(t, b, m, q, v)
				}
				for _, code := range codes {
					checkNearest(t, b, m, v, code)
				}
			}
		}
	}
}

func TestBoundsOfVectors(t *testing.T) {
	r := random()
	for range 3000 {
		dims, width := 1+r.IntN(api.MaxDims), randomWidth(r)
		b := randomBook(r, dims, width, 1+r.IntN(8))
		for range 3 {
			v := randomList(r, dims, width)
			for _, m := range metrics {
				checkBounded(t, b, m, randomList(r, dims, width), v)
				checkNearest(t, b, m, v, randomCode(r, b))
			}
		}
	}
}
