package pivot

import (
	"math"
	"math/big"
	"math/rand/v2"
	"slices"
	"testing"

	"antiquary/api"
	"antiquary/metric"
)

// shellsOf reads P9.3 literally: it sorts the keys to each pivot.
func shellsOf(m int, pivots, l [][]int) []api.Shell {
	var shells []api.Shell
	for _, p := range pivots {
		var keys []int
		for _, v := range l {
			keys = append(keys, keyOf(m, v, p))
		}
		slices.Sort(keys)
		shells = append(shells, api.Shell{Lo: keys[0], Hi: keys[len(keys)-1]})
	}
	return shells
}

// validShells reads the chapter's Terms literally.
func validShells(l []api.Shell) bool {
	for _, s := range l {
		if !(0 <= s.Lo && s.Lo <= s.Hi && s.Hi <= 1<<27) {
			return false
		}
	}
	return len(l) <= 8
}

// inShells reads the chapter's Terms literally.
func inShells(l []api.Shell, keys []int) bool {
	if !validShells(l) || len(keys) != len(l) {
		return false
	}
	for i, key := range keys {
		if !(l[i].Lo <= key && key <= l[i].Hi) {
			return false
		}
	}
	return true
}

// ends are Low and High of two keys, with a root by math/big.
func ends(m, x, y int) (int, int) {
	low, high := max(x-y, y-x), x+y
	if m == api.MeEuclid {
		root := int(new(big.Int).Sqrt(big.NewInt(4 * int64(x) * int64(y))).Int64())
		low, high = x+y-root, x+y+root
	}
	return low, min(high, 1<<27)
}

// scanned returns Low and High of a key and all those of a shell, one by one.
func scanned(m int, s api.Shell, key int) (int, int) {
	low, high := ends(m, s.Lo, key)
	for x := s.Lo; x <= s.Hi; x++ {
		a, b := ends(m, x, key)
		low, high = min(low, a), max(high, b)
	}
	return low, high
}

// bounds reads P9.4 literally, by layer 5.
func bounds(m int, l []api.Shell, keys []int) (int, int) {
	lows, highs := []int{0}, []int{1 << 27}
	for i, s := range l {
		lows = append(lows, metric.Gap(m, s.Lo, s.Hi, keys[i]))
		highs = append(highs, metric.Reach(m, s.Lo, s.Hi, keys[i]))
	}
	return slices.Max(lows), slices.Min(highs)
}

func checkBounds(t *testing.T, m int, l []api.Shell, keys []int) {
	t.Helper()
	wantLow, wantHigh := bounds(m, l, keys)
	if got, e := Low(m, l, keys); got != wantLow || e != api.OK {
		t.Fatalf("P9.4: Low(%d, %v, %v) = %d, %d, want %d", m, l, keys, got, e, wantLow)
	}
	if got, e := High(m, l, keys); got != wantHigh || e != api.OK {
		t.Fatalf("P9.4: High(%d, %v, %v) = %d, %d, want %d", m, l, keys, got, e, wantHigh)
	}
}

// randomKey returns a key, also a small one and those at the ends.
func randomKey(r *rand.Rand) int {
	switch r.IntN(6) {
	case 0:
		return []int{0, 1, api.MaxKey - 1, api.MaxKey}[r.IntN(4)]
	case 1:
		return r.IntN(20)
	}
	return r.IntN(api.MaxKey+1) >> r.IntN(28)
}

func randomShell(r *rand.Rand) api.Shell {
	a, b := randomKey(r), randomKey(r)
	return api.Shell{Lo: min(a, b), Hi: max(a, b)}
}

// randomShells returns n shells.
func randomShells(r *rand.Rand, n int) []api.Shell {
	var l []api.Shell
	for range n {
		l = append(l, randomShell(r))
	}
	return l
}

// randomKeys returns n keys.
func randomKeys(r *rand.Rand, n int) []int {
	var l []int
	for range n {
		l = append(l, randomKey(r))
	}
	return l
}

// invalid returns lists of shells that are not valid; what is wrong with one shell is so at every place of up to three.
func invalid() [][]api.Shell {
	lists := [][]api.Shell{make([]api.Shell, api.MaxPivots+1), make([]api.Shell, 100)}
	for _, s := range []api.Shell{{Lo: -1, Hi: 1}, {Lo: -1, Hi: -1}, {Lo: 1}, {Lo: 3, Hi: 2}, {Hi: -1}, {Lo: math.MinInt, Hi: 5}, {Hi: api.MaxKey + 1}, {Lo: api.MaxKey + 1, Hi: api.MaxKey + 1}, {Hi: math.MaxInt}, {Lo: math.MaxInt, Hi: math.MinInt}, {Lo: math.MinInt, Hi: math.MaxInt}, {Lo: api.MaxKey + 1, Hi: api.MaxKey}, {Lo: api.MaxKey, Hi: api.MaxKey - 1}} {
		for place := range 3 {
			lists = append(lists, slices.Insert([]api.Shell{{Lo: 0, Hi: 9}, {Lo: 2, Hi: 2}}, place, s))
		}
		lists = append(lists, []api.Shell{s}, append(make([]api.Shell, api.MaxPivots-1), s))
	}
	return lists
}

func TestShellExamples(t *testing.T) {
	shells, e := Shells(api.MeSum, line(0, 10), line(4, 6))
	if !slices.Equal(shells, []api.Shell{{Lo: 4, Hi: 6}, {Lo: 4, Hi: 6}}) || e != api.OK {
		t.Fatalf("P9.3: Shells of the example are %v, %d", shells, e)
	}
	if got, e := Low(api.MeSum, shells, []int{0, 10}); got != 4 || e != api.OK {
		t.Errorf("P9.4: Low of the example is %d, %d", got, e)
	}
	if got, e := High(api.MeSum, shells, []int{0, 10}); got != 6 || e != api.OK {
		t.Errorf("P9.4: High of the example is %d, %d", got, e)
	}
	joined, e := Join(shells, []api.Shell{{Lo: 1, Hi: 2}, {Lo: 5, Hi: 9}})
	if !slices.Equal(joined, []api.Shell{{Lo: 1, Hi: 6}, {Lo: 4, Hi: 9}}) || e != api.OK {
		t.Errorf("P9.3: Join is %v, %d", joined, e)
	}
}

// TestNoShells has lists of no shells, nil or not.
func TestNoShells(t *testing.T) {
	for _, none := range [][]api.Shell{nil, {}} {
		if !Valid(none) {
			t.Errorf("P9.3: no shells are not valid")
		}
		if got, e := Join(none, nil); len(got) != 0 || e != api.OK {
			t.Errorf("P9.3: Join of no shells is %v, %d", got, e)
		}
		if !In(none, nil) || !In(none, []int{}) || In(none, []int{0}) {
			t.Errorf("P9.3: In of no shells is wrong")
		}
		for _, m := range metrics {
			checkBounds(t, m, none, nil)
			checkBounds(t, m, none, []int{})
			if high, e := High(m, none, nil); high != 1<<27 || e != api.OK {
				t.Errorf("P9.4: High without shells is %d, %d", high, e)
			}
		}
	}
}

func TestValid(t *testing.T) {
	some := []int{math.MinInt, -2, -1, 0, 1, 2, 5, api.MaxKey - 1, api.MaxKey, api.MaxKey + 1, math.MaxInt}
	for _, lo := range some {
		for _, hi := range some {
			for n := range 11 {
				for place := range n {
					l := slices.Repeat([]api.Shell{{Lo: 1, Hi: 3}}, n)
					l[place] = api.Shell{Lo: lo, Hi: hi}
					if Valid(l) != validShells(l) {
						t.Fatalf("P9.3: Valid(%v) = %v", l, Valid(l))
					}
				}
			}
		}
	}
	for _, l := range invalid() {
		if Valid(l) {
			t.Errorf("P9.3: Valid(%v)", l)
		}
	}
}

func TestShells(t *testing.T) {
	check := func(m int, pivots, l [][]int) {
		t.Helper()
		got, e := Shells(m, pivots, l)
		if want := shellsOf(m, pivots, l); !slices.Equal(got, want) || e != api.OK || !Valid(got) {
			t.Fatalf("P9.3: Shells(%d, %v, %v) = %v, %d, want %v", m, pivots, l, got, e, want)
		}
	}
	for _, m := range metrics {
		for n := 1; n <= 4; n++ {
			for _, l := range listsOf(n, grid(1, -2, 3)) {
				check(m, l, l)
				check(m, l[:1], l)
				check(m, l, l[:1])
			}
		}
		for _, l := range listsOf(3, grid(2, -1, 1)) {
			check(m, l[:2], l)
			check(m, l, l[1:])
		}
	}
	r := random()
	for range 2000 {
		dims, width := 1+r.IntN(api.MaxDims), randomWidth(r)
		pivots, l := randomVectors(r, 1+r.IntN(api.MaxPivots), dims, width), randomVectors(r, 1+r.IntN(20), dims, width)
		for _, m := range metrics {
			check(m, pivots, l)
		}
	}
	l := randomVectors(r, api.MaxSlots, api.MaxDims, api.MaxCoord)
	for _, m := range metrics {
		check(m, l[:api.MaxPivots], l)
	}
}

func checkJoin(t *testing.T, a, b []api.Shell) {
	t.Helper()
	var want []api.Shell
	for i := range a {
		all := []int{a[i].Lo, a[i].Hi, b[i].Lo, b[i].Hi}
		slices.Sort(all)
		want = append(want, api.Shell{Lo: all[0], Hi: all[3]})
	}
	if got, e := Join(a, b); !slices.Equal(got, want) || e != api.OK {
		t.Fatalf("P9.3: Join(%v, %v) = %v, %d, want %v", a, b, got, e, want)
	}
}

func checkIn(t *testing.T, l []api.Shell, keys []int) {
	t.Helper()
	if got := In(l, keys); got != inShells(l, keys) {
		t.Fatalf("P9.3: In(%v, %v) = %v", l, keys, got)
	}
}

// smallShells are all shells of keys from 0 to most.
func smallShells(most int) []api.Shell {
	var all []api.Shell
	for lo := range most + 1 {
		for hi := lo; hi <= most; hi++ {
			all = append(all, api.Shell{Lo: lo, Hi: hi})
		}
	}
	return all
}

func TestJoinAndIn(t *testing.T) {
	for _, a := range smallShells(4) {
		for _, b := range smallShells(4) {
			checkJoin(t, []api.Shell{a}, []api.Shell{b})
			checkJoin(t, []api.Shell{a, b}, []api.Shell{b, a})
			for x := -1; x <= 5; x++ {
				checkIn(t, []api.Shell{a}, []int{x})
				for y := -1; y <= 5; y++ {
					checkIn(t, []api.Shell{a, b}, []int{x, y})
				}
			}
		}
	}
	r := random()
	for range 5000 {
		n := r.IntN(api.MaxPivots + 1)
		a, b := randomShells(r, n), randomShells(r, n)
		checkJoin(t, a, b)
		keys := randomKeys(r, n)
		checkIn(t, a, keys)
		for i, s := range a {
			keys[i] = []int{s.Lo, s.Hi, (s.Lo + s.Hi) / 2, s.Lo, s.Hi, s.Lo - r.IntN(2), s.Hi + r.IntN(2)}[r.IntN(7)]
		}
		checkIn(t, a, keys)
		checkIn(t, a, append(keys, 0))
		if n > 0 {
			checkIn(t, a, keys[1:])
			checkIn(t, a, keys[:n-1])
		}
	}
	for _, x := range []int{math.MinInt, -1, api.MaxKey + 1, math.MaxInt} {
		checkIn(t, []api.Shell{{Lo: 0, Hi: api.MaxKey}}, []int{x})
	}
}

func TestJoinAndInErrors(t *testing.T) {
	check := func(a, b []api.Shell) {
		t.Helper()
		if got, e := Join(a, b); got != nil || e != api.ErrArg {
			t.Errorf("P9.3: Join(%v, %v) = %v, %d", a, b, got, e)
		}
		if got, e := Join(b, a); got != nil || e != api.ErrArg {
			t.Errorf("P9.3: Join(%v, %v) = %v, %d", b, a, got, e)
		}
	}
	for _, l := range invalid() {
		check(l, l)
		check(l, make([]api.Shell, len(l)))
		check(l, slices.Repeat([]api.Shell{{Lo: 0, Hi: api.MaxKey}}, len(l)))
		check(l, nil)
		var lows, highs []int
		for _, s := range l {
			lows, highs = append(lows, s.Lo), append(highs, s.Hi)
		}
		checkIn(t, l, lows)
		checkIn(t, l, highs)
		checkIn(t, l, make([]int, len(l)))
		checkIn(t, l, nil)
	}
	for n := range api.MaxPivots + 1 {
		for other := range n {
			check(make([]api.Shell, n), make([]api.Shell, other))
		}
	}
}

// TestBoundsSmall has all keys and shells up to few keys, and looks at the shells' keys one by one.
func TestBoundsSmall(t *testing.T) {
	for _, m := range metrics {
		for _, s := range smallShells(12) {
			for key := range 20 {
				checkBounds(t, m, []api.Shell{s}, []int{key})
				wantLow, wantHigh := scanned(m, s, key)
				low, _ := Low(m, []api.Shell{s}, []int{key})
				high, _ := High(m, []api.Shell{s}, []int{key})
				if low != wantLow || high != wantHigh {
					t.Fatalf("P9.4: Low and High of %v and %d (metric %d) are %d and %d, want %d and %d", s, key, m, low, high, wantLow, wantHigh)
				}
			}
		}
		for _, a := range smallShells(4) {
			for _, b := range smallShells(4) {
				for _, keys := range grid(2, 0, 6) {
					checkBounds(t, m, []api.Shell{a, b}, keys)
				}
			}
		}
	}
}

func TestBounds(t *testing.T) {
	r := random()
	for range 20000 {
		n := r.IntN(api.MaxPivots + 1)
		shells, keys := randomShells(r, n), randomKeys(r, n)
		for _, m := range metrics {
			checkBounds(t, m, shells, keys)
		}
	}
	most := []api.Shell{{Lo: api.MaxKey, Hi: api.MaxKey}, {Lo: 0, Hi: api.MaxKey}, {}}
	for _, m := range metrics {
		for _, keys := range grid(3, 0, 1) {
			for i := range keys {
				keys[i] *= api.MaxKey
			}
			checkBounds(t, m, most, keys)
		}
	}
}

func TestBoundErrors(t *testing.T) {
	check := func(m int, l []api.Shell, keys []int) {
		t.Helper()
		if got, e := Low(m, l, keys); got != 0 || e != api.ErrArg {
			t.Errorf("P9.4: Low(%d, %v, %v) = %d, %d", m, l, keys, got, e)
		}
		if got, e := High(m, l, keys); got != 0 || e != api.ErrArg {
			t.Errorf("P9.4: High(%d, %v, %v) = %d, %d", m, l, keys, got, e)
		}
	}
	for _, m := range noMetrics {
		check(m, nil, nil) // also without shells
		check(m, []api.Shell{{Lo: 1, Hi: 2}}, []int{3})
	}
	for _, m := range metrics {
		for _, l := range invalid() {
			check(m, l, make([]int, len(l)))
			check(m, l, slices.Repeat([]int{5}, len(l)))
			check(m, l, nil)
		}
		for n := range api.MaxPivots + 1 {
			for other := range api.MaxPivots + 2 {
				if other != n {
					check(m, make([]api.Shell, n), make([]int, other))
				}
			}
			for place := range n {
				for _, key := range []int{-1, api.MaxKey + 1, math.MinInt, math.MaxInt} {
					keys := slices.Repeat([]int{7}, n)
					keys[place] = key
					check(m, slices.Repeat([]api.Shell{{Lo: 0, Hi: api.MaxKey}}, n), keys)
				}
			}
		}
	}
}
