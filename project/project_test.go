package project

import (
	"crypto/sha256"
	"encoding/binary"
	"math"
	"math/rand/v2"
	"reflect"
	"slices"
	"testing"

	"antiquary/api"
)

func random() *rand.Rand { return rand.New(rand.NewPCG(7, 20)) }

// full returns a list of n equal numbers.
func full(n, x int) []int {
	l := make([]int, n)
	for i := range l {
		l[i] = x
	}
	return l
}

// grid returns all lists of n numbers from lo to hi.
func grid(n, lo, hi int) [][]int {
	all := [][]int{{}}
	for range n {
		var longer [][]int
		for _, v := range all {
			for x := lo; x <= hi; x++ {
				longer = append(longer, append(slices.Clone(v), x))
			}
		}
		all = longer
	}
	return all
}

// randomVector returns a vector: often one at the limits, or near the middle.
func randomVector(r *rand.Rand, dims int) []int {
	width := []int{2, 20, 1000, 1000}[r.IntN(4)]
	v := make([]int, dims)
	for i := range v {
		v[i] = r.IntN(2*width+1) - width
		if width == 1000 && r.IntN(4) == 0 {
			v[i] = 1000 * (1 - 2*r.IntN(2))
		}
	}
	return v
}

// randomLine returns a line: often one at the limits, or with few coordinates other than 0.
func randomLine(r *rand.Rand, dims int) []int {
	line := make([]int, dims)
	steepest := []int{1, 3, 16, 16}[r.IntN(4)]
	for i := range line {
		line[i] = r.IntN(2*steepest+1) - steepest
		if r.IntN(4) == 0 {
			line[i] = steepest * (1 - 2*r.IntN(2))
		}
		if steepest == 3 && r.IntN(3) > 0 {
			line[i] = 0
		}
	}
	if slices.Equal(line, make([]int, dims)) {
		line[r.IntN(dims)] = 1 - 2*r.IntN(2)
	}
	return line
}

// randomLines returns lines of every number.
func randomLines(r *rand.Rand, dims int) [][]int {
	var lines [][]int
	for range 1 + r.IntN(8) {
		lines = append(lines, randomLine(r, dims))
	}
	return lines
}

// part returns bytes of an integer, as they are in an encoding.
func part(n int) []byte { return binary.AppendVarint(nil, int64(n)) }

// digest is the digest of the tag 7 and the list of three integers.
func digest(seed, k, half int) []byte {
	list := slices.Concat(part(3), part(seed), part(k), part(half))
	sum := sha256.Sum256(slices.Concat([]byte{7}, part(len(list)), list))
	return sum[:16]
}

// linesOf reads P7.1 literally; filled tells how many lines would be all 0.
func linesOf(seed, n, dims int) (lines [][]int, filled int) {
	for k := 0; k < n; k++ {
		b := append(digest(seed, k, 0), digest(seed, k, 1)...)
		line, zero := []int{}, true
		for i := 0; i < dims; i++ {
			line = append(line, int(b[i])%3-1)
			zero = zero && line[i] == 0
		}
		if zero {
			line[0] = 1
			filled++
		}
		lines = append(lines, line)
	}
	return lines, filled
}

func TestLines(t *testing.T) {
	r := random()
	seeds := []int{0, 1, -1, 7, 63, 64, -64, -65, 1 << 30, math.MinInt, math.MaxInt}
	for range 20 {
		seeds = append(seeds, int(r.Uint64()))
	}
	filled := map[int]int{}
	for _, seed := range seeds {
		for dims := 1; dims <= api.MaxDims; dims++ {
			for n := 1; n <= api.MaxLines; n++ {
				want, zero := linesOf(seed, n, dims)
				if got := Lines(seed, n, dims); !reflect.DeepEqual(got, want) {
					t.Fatalf("P7.1: Lines(%d, %d, %d) = %v, want %v", seed, n, dims, got, want)
				}
				if !Valid(want, dims) {
					t.Errorf("P7.1: no lines: %v", want)
				}
				filled[dims] += zero
			}
		}
	}
	if filled[1] == 0 || filled[2] == 0 || filled[3] == 0 {
		t.Errorf("P7.1: too few lines that would be all 0: %v", filled)
	}
	for seed := range 300 { // longer lines that would be all 0 are rare
		for dims := 4; dims <= 6; dims++ {
			want, zero := linesOf(seed, 8, dims)
			if got := Lines(seed, 8, dims); !reflect.DeepEqual(got, want) {
				t.Errorf("P7.1: Lines(%d, 8, %d) = %v, want %v", seed, dims, got, want)
			}
			filled[dims] += zero
		}
	}
	if filled[4] == 0 || filled[5] == 0 || filled[6] == 0 {
		t.Errorf("P7.1: too few lines that would be all 0: %v", filled)
	}
}

func TestLinesMemory(t *testing.T) {
	for _, dims := range []int{1, 2, 15, 16, 17, 31, 32} {
		want, _ := linesOf(3, 8, dims)
		one, two := Lines(3, 8, dims), Lines(3, 8, dims)
		for k := range one {
			for i := range one[k] {
				one[k][i] = 99
			}
			one[k] = append(one[k], 98, 97)
		}
		_ = append(two[:3], full(dims, 96))
		two[3] = want[3]
		if !reflect.DeepEqual(two, want) || !reflect.DeepEqual(Lines(3, 8, dims), want) {
			t.Errorf("P7.5: lines share memory: %v", two)
		}
		two = Lines(3, 8, dims)
		for k := range two {
			_ = append(two[k], 95, 94)
		}
		if !reflect.DeepEqual(two, want) {
			t.Errorf("P7.5: lines share memory: %v", two)
		}
	}
}

func checkValid(t *testing.T, lines [][]int, dims int, want bool) {
	t.Helper()
	if Valid(lines, dims) != want {
		t.Errorf("P7.2: Valid(%v, %d) is not %v", lines, dims, want)
	}
}

func TestValid(t *testing.T) {
	for x := -20; x <= 20; x++ {
		steep := x < -16 || x > 16
		checkValid(t, [][]int{{x}}, 1, !steep && x != 0)
		for y := -20; y <= 20; y++ {
			checkValid(t, [][]int{{x, y}}, 2, !steep && -16 <= y && y <= 16 && (x != 0 || y != 0))
		}
	}
	for dims := -2; dims <= 40; dims++ {
		for n := 0; n <= 12; n++ {
			var lines [][]int
			for range n {
				lines = append(lines, full(max(dims, 0), 16))
			}
			is := 1 <= dims && dims <= 32 && 1 <= n && n <= 8
			checkValid(t, lines, dims, is)
			for other := -2; other <= 40; other++ {
				checkValid(t, lines, other, is && other == dims)
			}
		}
	}
	for _, dims := range []int{0, 33, math.MinInt, math.MaxInt, 1<<32 + 1, -1} {
		checkValid(t, nil, dims, false)
		checkValid(t, [][]int{{}}, dims, false)
		checkValid(t, [][]int{{1}}, dims, false)
	}
}

// TestValidPlaces puts what is wrong at every place.
func TestValidPlaces(t *testing.T) {
	for dims := 1; dims <= api.MaxDims; dims++ {
		for n := 1; n <= api.MaxLines; n++ {
			for k := range n {
				lines := slices.Repeat([][]int{full(dims, -16)}, n)
				for _, line := range [][]int{nil, full(dims-1, 1), full(dims+1, 1), full(dims, 0)} {
					lines[k] = line
					checkValid(t, lines, dims, false)
				}
				for _, i := range []int{0, dims / 2, dims - 1} {
					for x, is := range map[int]bool{1: true, -1: true, 16: true, -16: true, 17: false, -17: false, math.MinInt: false, math.MaxInt: false, 1 << 32: false} {
						lines[k] = full(dims, 0)
						lines[k][i] = x
						checkValid(t, lines, dims, is)
					}
				}
			}
		}
	}
}

// product is the product of two lists.
func product(a, b []int) int {
	sum := 0
	for i, x := range a {
		sum += x * b[i]
	}
	return sum
}

// checkApply checks Apply for a vector, and Of for it alone.
func checkApply(t *testing.T, lines [][]int, v []int) {
	t.Helper()
	got, alone := Apply(lines, v), Of(lines, [][]int{v})
	if len(got) != len(lines) || len(alone) != len(lines) {
		t.Fatalf("P7.3: %v has the projections %v and ranges %v by %v", v, got, alone, lines)
	}
	for k, line := range lines {
		want := product(line, v)
		if got[k] != want || alone[k] != (api.Range{Lo: want, Hi: want}) {
			t.Fatalf("P7.3: %v has the projections %v and ranges %v by %v", v, got, alone, lines)
		}
	}
}

func TestApply(t *testing.T) {
	lines := [][]int{{1, 1}, {2, -1}}
	if got := Apply(lines, []int{3, 1}); !slices.Equal(got, []int{4, 5}) {
		t.Errorf("P7.3: Apply is %v", got)
	}
	if got := Apply(lines, []int{0, 0}); !slices.Equal(got, []int{0, 0}) {
		t.Errorf("P7.3: Apply is %v", got)
	}
	for _, v := range grid(2, -4, 4) {
		checkApply(t, lines, v)
		for _, line := range grid(2, -2, 2) {
			checkApply(t, [][]int{line}, v)
		}
	}
	for dims := 1; dims <= api.MaxDims; dims++ {
		for _, x := range []int{1000, -1000} {
			if got := Apply([][]int{full(dims, 16), full(dims, -16)}, full(dims, x)); !slices.Equal(got, []int{16 * x * dims, -16 * x * dims}) {
				t.Errorf("P7.3: Apply at the limits is %v", got)
			}
		}
	}
	r := random()
	for range 5000 {
		dims := 1 + r.IntN(api.MaxDims)
		checkApply(t, randomLines(r, dims), randomVector(r, dims))
	}
}

func TestOf(t *testing.T) {
	lines := [][]int{{1, 1}, {2, -1}}
	if got := Of(lines, [][]int{{0, 0}, {3, 1}}); !slices.Equal(got, []api.Range{{Lo: 0, Hi: 4}, {Lo: 0, Hi: 5}}) {
		t.Errorf("P7.3: Of is %v", got)
	}
	r := random()
	for n := range 3000 {
		dims := 1 + r.IntN(api.MaxDims)
		lines := randomLines(r, dims)
		var l [][]int
		for range 1 + r.IntN(1+n%20) {
			l = append(l, randomVector(r, dims))
		}
		var want []api.Range
		for _, line := range lines {
			var all []int
			for _, v := range l {
				all = append(all, product(line, v))
			}
			want = append(want, api.Range{Lo: slices.Min(all), Hi: slices.Max(all)})
		}
		for range 3 {
			got := Of(lines, l)
			if !slices.Equal(got, want) {
				t.Fatalf("P7.3: Of(%v, %v) = %v, want %v", lines, l, got, want)
			}
			for _, v := range l {
				if !Has(got, Apply(lines, v)) {
					t.Fatalf("P7.7: Of(%v, %v) = %v does not have %v", lines, l, got, v)
				}
			}
			r.Shuffle(len(l), func(i, j int) { l[i], l[j] = l[j], l[i] })
			l = append(l, l[r.IntN(len(l))])
		}
	}
}

// intervals returns all ranges with bounds from lo to hi.
func intervals(lo, hi int) []api.Range {
	var all []api.Range
	for x := lo; x <= hi; x++ {
		for y := x; y <= hi; y++ {
			all = append(all, api.Range{Lo: x, Hi: y})
		}
	}
	return all
}

// randomRange returns a range, often one at the limits or with one number.
func randomRange(r *rand.Rand) api.Range {
	width := []int{3, 1000, 1 << 20, 1 << 30}[r.IntN(4)]
	one := func() int {
		if r.IntN(5) == 0 {
			return width * (1 - 2*r.IntN(2))
		}
		return r.IntN(2*width+1) - width
	}
	x, y := one(), one()
	if r.IntN(4) == 0 {
		y = x
	}
	return api.Range{Lo: min(x, y), Hi: max(x, y)}
}

// randomRanges returns n ranges.
func randomRanges(r *rand.Rand, n int) []api.Range {
	var l []api.Range
	for range n {
		l = append(l, randomRange(r))
	}
	return l
}

// contains reads P7.4 for Has literally.
func contains(r []api.Range, s []int) bool {
	for i := range s {
		if !(r[i].Lo <= s[i] && s[i] <= r[i].Hi) {
			return false
		}
	}
	return true
}

// checkJoin checks Join of two lists of ranges.
func checkJoin(t *testing.T, a, b []api.Range) {
	t.Helper()
	got := Join(a, b)
	if len(got) != len(a) {
		t.Fatalf("P7.4: Join(%v, %v) = %v", a, b, got)
	}
	for i, x := range got {
		if x.Lo != slices.Min([]int{a[i].Lo, b[i].Lo}) || x.Hi != slices.Max([]int{a[i].Hi, b[i].Hi}) {
			t.Fatalf("P7.4: Join(%v, %v) = %v", a, b, got)
		}
	}
}

func TestJoin(t *testing.T) {
	all := intervals(-2, 2)
	for _, a := range all {
		for _, b := range all {
			checkJoin(t, []api.Range{a}, []api.Range{b})
			checkJoin(t, []api.Range{{Lo: 1, Hi: 2}, a, b}, []api.Range{b, {Lo: 0, Hi: 0}, a})
			join := Join([]api.Range{a}, []api.Range{b})
			for x := -4; x <= 4; x++ {
				s := []int{x}
				if (contains([]api.Range{a}, s) || contains([]api.Range{b}, s)) && !Has(join, s) {
					t.Errorf("P7.7: the join %v of %v and %v does not have %d", join, a, b, x)
				}
			}
		}
	}
	r := random()
	for range 5000 {
		n := 1 + r.IntN(8)
		a, b := randomRanges(r, n), randomRanges(r, n)
		checkJoin(t, a, b)
		var s []int
		for i := range n {
			s = append(s, []int{a[i].Lo, a[i].Hi, a[i].Lo + r.IntN(a[i].Hi-a[i].Lo+1)}[r.IntN(3)])
		}
		if !Has(a, s) || !Has(Join(a, b), s) || !Has(Join(b, a), s) {
			t.Fatalf("P7.7: the join of %v and %v does not have %v", a, b, s)
		}
	}
}

func TestHas(t *testing.T) {
	r := []api.Range{{Lo: 0, Hi: 4}, {Lo: 0, Hi: 5}}
	if !Has(r, []int{4, 5}) || Has(r, []int{5, 5}) {
		t.Error("P7.4: Has of the examples")
	}
	numbers := []int{math.MinInt, math.MinInt + 1, math.MinInt + 2, -1 << 62, -1<<30 - 1, -1 << 30, 1 << 30, 1<<30 + 1, 1 << 62, math.MaxInt - 1, math.MaxInt}
	for x := -5; x <= 5; x++ {
		numbers = append(numbers, x)
	}
	ranges := append(intervals(-2, 2), api.Range{Lo: -1 << 30, Hi: -1 << 30}, api.Range{Lo: -1 << 30, Hi: 1 << 30}, api.Range{Lo: 1 << 30, Hi: 1 << 30}, api.Range{Lo: 0, Hi: 1 << 30})
	for _, one := range ranges {
		for _, x := range numbers {
			for n := 1; n <= api.MaxLines; n++ {
				for i := range n {
					r, s := slices.Repeat([]api.Range{{Lo: 3, Hi: 7}}, n), full(n, 5)
					r[i], s[i] = one, x
					if want := one.Lo <= x && x <= one.Hi; Has(r, s) != want {
						t.Fatalf("P7.4: Has(%v, %v) is not %v", r, s, want)
					}
				}
			}
			for _, y := range numbers {
				if r, s := []api.Range{one, {Lo: -1, Hi: 1}}, []int{x, y}; Has(r, s) != contains(r, s) {
					t.Fatalf("P7.4: Has(%v, %v) is not %v", r, s, contains(r, s))
				}
			}
		}
	}
}

func TestWidest(t *testing.T) {
	check := func(r []api.Range) {
		t.Helper()
		want, width := 0, -1
		for i, x := range r {
			if x.Hi-x.Lo > width {
				want, width = i, x.Hi-x.Lo
			}
		}
		if got := Widest(r); got != want {
			t.Errorf("P7.4: Widest(%v) = %d, want %d", r, got, want)
		}
	}
	if got := Widest([]api.Range{{Lo: 0, Hi: 4}, {Lo: 0, Hi: 5}}); got != 1 {
		t.Errorf("P7.4: Widest of the example is %d", got)
	}
	if got := Widest([]api.Range{{Lo: 5, Hi: 6}, {Lo: -9, Hi: -7}, {Lo: 1, Hi: 3}}); got != 1 {
		t.Errorf("P7.4: Widest is %d, not the first one of several", got)
	}
	all := intervals(-1, 1)
	for _, a := range all {
		check([]api.Range{a})
		for _, b := range all {
			check([]api.Range{a, b})
			for _, c := range all {
				check([]api.Range{a, b, c})
				check([]api.Range{b, a, b, c, c})
			}
		}
	}
	r := random()
	for range 5000 {
		l := randomRanges(r, 1+r.IntN(8))
		check(l)
		check(append(l, api.Range{Lo: -1 << 30, Hi: 1 << 30}, api.Range{Lo: -1 << 30, Hi: 1 << 30}))
	}
}

func TestNewMemory(t *testing.T) {
	lines, l := [][]int{{1, 1}, {2, -1}}, [][]int{{0, 0}, {3, 1}}
	v, r := []int{3, 1}, []api.Range{{Lo: 0, Hi: 4}, {Lo: 0, Hi: 5}}
	spoil := func() {
		one := append(Apply(lines, v)[:0], 91, 92)
		_ = append(one, 93)
		for _, r := range [][]api.Range{Of(lines, l), Of(lines, l[1:]), Join(r, r), Join(r, r[:2:2])} {
			r[0], r[1] = api.Range{Lo: 94, Hi: 95}, api.Range{Lo: 96, Hi: 97}
			_ = append(r, api.Range{})
		}
	}
	for range 2 {
		spoil()
		if !Valid(lines, 2) || !Has(r, []int{4, 5}) || Has(r, []int{5, 5}) || Bound(api.MeSum, lines, r, v) != 0 || Widest(r) != 1 {
			t.Fatal("P7.5: a result or an argument is changed by a later call")
		}
	}
	if !reflect.DeepEqual(lines, [][]int{{1, 1}, {2, -1}}) || !reflect.DeepEqual(l, [][]int{{0, 0}, {3, 1}}) || !reflect.DeepEqual(v, []int{3, 1}) || !reflect.DeepEqual(r, []api.Range{{Lo: 0, Hi: 4}, {Lo: 0, Hi: 5}}) {
		t.Errorf("P7.5: results share memory with arguments: %v, %v, %v, %v", lines, l, v, r)
	}
}

// TestUnspecified calls with what nothing is said of: no call may panic, or not end.
func TestUnspecified(t *testing.T) {
	odd := []int{math.MinInt, -1, 0, 1, 9, 33, math.MaxInt}
	for _, n := range odd {
		for _, dims := range odd {
			Lines(n, n, dims)
			Lines(1, n, dims)
			Lines(1, dims, n)
		}
	}
	lists := [][]int{nil, {}, {0}, {math.MinInt}, {math.MaxInt, math.MinInt, -1}, {-1, 0}, full(50, 0), full(50, -1), full(50, 17)}
	ranges := [][]api.Range{nil, {{}}, {{Lo: 5, Hi: -5}}, {{Lo: math.MinInt, Hi: math.MaxInt}, {Lo: math.MaxInt, Hi: math.MinInt}}, make([]api.Range, 50)}
	for _, a := range lists {
		for _, b := range lists {
			for _, lines := range [][][]int{nil, {}, {a}, {a, b}, slices.Repeat([][]int{b}, 50)} {
				Valid(lines, len(a))
				Apply(lines, a)
				Of(lines, nil)
				Of(lines, [][]int{a})
				Of(lines, [][]int{a, b, nil})
				for _, r := range ranges {
					for metric := -1; metric <= 4; metric++ {
						Bound(metric, lines, r, a)
					}
					Bound(math.MinInt, lines, r, b)
					Has(r, a)
				}
			}
		}
	}
	for _, a := range ranges {
		Widest(a)
		for _, b := range ranges {
			Join(a, b)
		}
	}
}
