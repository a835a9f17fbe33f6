package code

import (
	"math"
	"slices"
	"testing"

	"antiquary/api"
)

// isRight reads the chapter's terms literally.
func isRight(b api.Codebook) bool {
	if b.Dims < 1 || b.Dims > 32 || len(b.Cuts) == 0 || len(b.Cuts) > 8 || len(b.Words) != len(b.Cuts) {
		return false
	}
	if !slices.IsSorted(b.Cuts) || len(slices.Compact(slices.Clone(b.Cuts))) != len(b.Cuts) || b.Cuts[0] != 0 || b.Cuts[len(b.Cuts)-1] >= b.Dims {
		return false
	}
	for i, n := range lengths(b.Dims, b.Cuts) {
		if len(b.Words[i]) == 0 || len(b.Words[i]) > 256 {
			return false
		}
		for _, word := range b.Words[i] {
			if len(word) != n || slices.Max(word) > 1000 || slices.Min(word) < -1000 {
				return false
			}
		}
	}
	return true
}

// blank returns a codebook with one word for each part; the parts have at least one coordinate.
func blank(dims int, cuts []int) api.Codebook {
	b := api.Codebook{Dims: dims, Cuts: cuts}
	for _, n := range lengths(dims, cuts) {
		b.Words = append(b.Words, [][]int{full(min(max(n, 1), 99), 0)})
	}
	return b
}

func checkBook(t *testing.T, b api.Codebook, right bool) {
	t.Helper()
	want := api.ErrBook
	if right {
		want = api.OK
	}
	if got := Check(b); got != want {
		t.Errorf("P8.1: Check(%v) = %d, want %d", b, got, want)
	}
}

// wrongBooks returns codebooks that are not right.
func wrongBooks() []api.Codebook {
	var all []api.Codebook
	for _, dims := range []int{0, -1, 33, 34, 64, 1<<32 + 3, math.MinInt, math.MaxInt, 2, 4} {
		b := example()
		b.Dims = dims
		all = append(all, b)
	}
	for _, cuts := range [][]int{nil, {}, {0}, {1}, {2, 0}, {0, 0}, {0, -1}, {0, 1}, {0, 3}, {0, 4}, {-1, 2}, {1, 2}, {0, 1, 2}, {0, 2, 3}, {0, 2, 2}, {0, math.MaxInt}, {0, math.MinInt}, {math.MinInt, 2}, {math.MinInt, math.MaxInt}} {
		b := example()
		b.Cuts = cuts
		all = append(all, b)
	}
	one, other := [][]int{{0, 0}, {3, 4}}, [][]int{{5}, {-5}}
	for _, words := range [][][][]int{nil, {one}, {other}, {other, one}, {one, other, other}, {one, nil}, {nil, other}, {one, {}}, {nil, nil}, {one, {nil}}, {one, {{}}}, {one, {{1, 2}}}, {one, {{1}, {}}}, {{{0, 0}, {1}}, other}, {{{0, 0}, {1, 2, 3}}, other}, {{{1}, {0, 0}}, other}} {
		b := example()
		b.Words = words
		all = append(all, b)
	}
	return append(all, api.Codebook{}, api.Codebook{Dims: 1}, api.Codebook{Dims: 1, Cuts: []int{0}}, api.Codebook{Dims: 1, Words: [][][]int{{{0}}}}, api.Codebook{Cuts: []int{0}, Words: [][][]int{{{}}}})
}

func TestCheck(t *testing.T) {
	checkBook(t, example(), true)
	for _, b := range wrongBooks() {
		checkBook(t, b, false)
	}
	r := random()
	for range 3000 {
		b := randomBook(r, 1+r.IntN(api.MaxDims), 1000, 1+r.IntN(5))
		checkBook(t, b, true)
		if !isRight(b) {
			t.Fatalf("the test takes %v to be not right", b)
		}
		b.Words[r.IntN(len(b.Words))] = b.Words[r.IntN(len(b.Words))]
		checkBook(t, b, isRight(b))
	}
}

// TestCheckCuts has all cuts of few coordinates, and the most parts.
func TestCheckCuts(t *testing.T) {
	for dims := -1; dims <= 4; dims++ {
		for n := 1; n <= 4; n++ {
			for _, cuts := range grid(n, -1, 5) {
				b := blank(dims, cuts)
				checkBook(t, b, isRight(b))
			}
		}
	}
	for dims := -2; dims <= 40; dims++ {
		checkBook(t, blank(dims, nil), false)
		for n := 1; n <= 12; n++ {
			var cuts []int
			for i := range n {
				cuts = append(cuts, i)
			}
			b := blank(dims, cuts)
			checkBook(t, b, dims <= 32 && n <= 8 && n <= dims)
			b.Words = b.Words[1:]
			checkBook(t, b, false)
			b.Words = append(b.Words, b.Words...)
			b.Words = append(b.Words, b.Words...)
			checkBook(t, b, false)
		}
	}
}

// TestCheckWords puts what is wrong at every place.
func TestCheckWords(t *testing.T) {
	for dims := 1; dims <= api.MaxDims; dims++ {
		for n := 1; n <= min(dims, api.MaxParts); n++ {
			var cuts []int
			for i := range n {
				cuts = append(cuts, i*dims/n)
			}
			for i, length := range lengths(dims, cuts) {
				for number, right := range map[int]bool{0: false, 1: true, 2: true, 255: true, 256: true, 257: false, 300: false} {
					b := blank(dims, cuts)
					b.Words[i] = slices.Repeat([][]int{full(length, 3)}, number)
					checkBook(t, b, right)
				}
				for _, word := range [][]int{nil, full(length-1, 0), full(length+1, 0), full(dims+1, 0)} {
					for at := range 3 {
						b := blank(dims, cuts)
						b.Words[i] = slices.Repeat([][]int{full(length, 3)}, 3)
						b.Words[i][at] = word
						checkBook(t, b, false)
					}
				}
				for at := range length {
					for x, right := range map[int]bool{1000: true, -1000: true, 1001: false, -1001: false, 1 << 32: false, math.MinInt: false, math.MaxInt: false} {
						b := blank(dims, cuts)
						b.Words[i] = append(b.Words[i], full(length, 0), full(length, 0))
						b.Words[i][1][at] = x
						checkBook(t, b, right)
					}
				}
			}
		}
	}
}
