package code

import (
	"math"
	"math/rand/v2"
	"reflect"
	"slices"
	"testing"

	"antiquary/api"
)

// trained reads P8.5 literally: before each word it looks for the least keys anew.
func trained(l [][]int, cuts []int, words int) api.Codebook {
	b := api.Codebook{Dims: len(l[0]), Cuts: cuts}
	for i, n := range lengths(b.Dims, cuts) {
		part := func(v []int) []int { return v[cuts[i] : cuts[i]+n] }
		chosen := [][]int{part(l[0])}
		for len(chosen) < words {
			farthest, most := -1, 0
			for k, v := range l {
				least := math.MaxInt
				for _, w := range chosen {
					least = min(least, keyOf(api.MeEuclid, part(v), w))
				}
				if least > most {
					farthest, most = k, least
				}
			}
			if farthest < 0 {
				break
			}
			chosen = append(chosen, part(l[farthest]))
		}
		b.Words = append(b.Words, chosen)
	}
	return b
}

// randomVectors returns n vectors that are alike; some are equal, or have equal parts.
func randomVectors(r *rand.Rand, n, dims, width int) [][]int {
	var l [][]int
	for range n {
		v := randomList(r, dims, width)
		if len(l) > 0 && r.IntN(3) == 0 {
			copy(v[r.IntN(dims):], l[r.IntN(len(l))])
		}
		l = append(l, v)
	}
	return l
}

func checkTrain(t *testing.T, l [][]int, cuts []int, words int) {
	t.Helper()
	got, e := Train(l, cuts, words)
	if want := trained(l, cuts, words); e != api.OK || !reflect.DeepEqual(got, want) {
		t.Fatalf("P8.5: Train(%v, %v, %d) = %v, %d, want %v", l, cuts, words, got, e, want)
	}
	if e := Check(got); e != api.OK {
		t.Fatalf("P8.5: Train(%v, %v, %d) is not right: %d", l, cuts, words, e)
	}
}

func TestTrain(t *testing.T) {
	for _, x := range grid(4, -2, 2) { // all lists of four vectors of one coordinate, and of two with two
		for words := 1; words <= 5; words++ {
			checkTrain(t, [][]int{x[:1], x[1:2], x[2:3], x[3:]}, []int{0}, words)
			checkTrain(t, [][]int{x[:2], x[2:]}, []int{0}, words)
			checkTrain(t, [][]int{x[:2], x[2:]}, []int{0, 1}, words)
			checkTrain(t, [][]int{x}, []int{0, 2}, words)
		}
	}
	r := random()
	for range 2000 {
		dims := 1 + r.IntN(api.MaxDims)
		l := randomVectors(r, 1+r.IntN(20), dims, randomWidth(r))
		checkTrain(t, l, randomCuts(r, dims), 1+r.IntN(len(l)+3))
		checkTrain(t, l, randomCuts(r, dims), api.MaxBookWords)
	}
}

// TestTrainLimits has the most vectors, coordinates, parts and words.
func TestTrainLimits(t *testing.T) {
	r := random()
	l := make([][]int, 4096)
	for i := range l {
		l[i] = randomList(r, api.MaxDims, 1000)
	}
	cuts := []int{0, 4, 8, 12, 16, 20, 24, 28}
	b, e := Train(l, cuts, 256)
	if e != api.OK || Check(b) != api.OK || !slices.Equal(b.Cuts, cuts) {
		t.Fatalf("P8.5: Train at the limits is %d", e)
	}
	for i, words := range b.Words {
		if len(words) != 256 {
			t.Errorf("P8.5: part %d has %d words", i, len(words))
		}
	}
	checkTrain(t, l, []int{0, 31}, 5)
	checkTrain(t, l[:300], cuts, 20)
	far := slices.Repeat([][]int{full(api.MaxDims, -1000)}, 4096)
	far[4095] = full(api.MaxDims, 1000)
	far[4094] = far[4095]
	checkTrain(t, far, []int{0}, 256)
	checkTrain(t, far, []int{0, 1}, 256)
}

// TestTrainErrors has errors alone, and several of them.
func TestTrainErrors(t *testing.T) {
	few, many, most := [][]int{{1, 2}, {3, 4}}, slices.Repeat([][]int{{1, 2}}, 4097), slices.Repeat([][]int{{1, 2}}, 4096)
	var unlike [][][]int
	for _, v := range [][]int{nil, {1}, {1, 2, 3}, {1, 1001}, {-1001, 0}, {math.MinInt, 0}, {0, math.MaxInt}} {
		unlike = append(unlike, [][]int{v, {1, 2}}, [][]int{{1, 2}, v}, [][]int{{1, 2}, {3, 4}, v, {5, 6}}, append(slices.Clone(many), v))
	}
	unlike = append(unlike, nil, [][]int{{}}, [][]int{{}, {}}, [][]int{nil}, [][]int{full(33, 0)}, [][]int{{1001}}, [][]int{{-1001}}, slices.Repeat([][]int{full(33, 1)}, 3))
	check := func(l [][]int, cuts []int, words int, want api.Errno) {
		t.Helper()
		got, e := Train(l, cuts, words)
		if e != want || e != api.OK && !reflect.DeepEqual(got, api.Codebook{}) {
			t.Errorf("P8.5: Train of %d vectors with %v, %d = %v, %d, want %d", len(l), cuts, words, got, e, want)
		}
	}
	wrong := [][]int{nil, {}, {1}, {-1}, {0, 0}, {0, 2}, {0, -1}, {1, 0}, {0, 1, 1}, {0, 1, 2}, {0, math.MaxInt}, {math.MinInt}, full(9, 0), {0, 1, 2, 3, 4, 5, 6, 7, 8}}
	for _, cuts := range append([][]int{{0}, {0, 1}}, wrong...) {
		right := slices.Equal(cuts, []int{0}) || slices.Equal(cuts, []int{0, 1})
		for _, words := range []int{math.MinInt, -1, 0, 1, 2, 255, 256, 257, 1000, math.MaxInt} {
			for _, l := range unlike {
				check(l, cuts, words, api.ErrArg)
			}
			for _, l := range [][][]int{few, few[:1], most, many} {
				switch {
				case words < 1:
					check(l, cuts, words, api.ErrArg)
				case words > 256 || len(l) > 4096:
					check(l, cuts, words, api.ErrLimit)
				case !right:
					check(l, cuts, words, api.ErrBook)
				default:
					check(l, cuts, words, api.OK)
				}
			}
		}
	}
	check([][]int{full(32, 5)}, []int{0, 1, 2, 3, 4, 5, 6, 7}, 1, api.OK)
	check([][]int{full(32, 5)}, []int{0, 1, 2, 3, 4, 5, 6, 7, 8}, 1, api.ErrBook)
	check([][]int{full(32, 5)}, []int{0, 31}, 1, api.OK)
	check([][]int{full(32, 5)}, []int{0, 32}, 1, api.ErrBook)
}

func TestWorst(t *testing.T) {
	for _, m := range metrics {
		if got := Worst(example(), m, nil); got != 0 {
			t.Errorf("P8.5: Worst of nothing is %d", got)
		}
	}
	if got := Worst(example(), api.MeEuclid, [][]int{{0, 0, 5}, {1, 1, 4}, {3, 4, -5}}); got != 3 {
		t.Errorf("P8.5: Worst is %d", got)
	}
	r := random()
	for range 2000 {
		dims, width := 1+r.IntN(api.MaxDims), randomWidth(r)
		b := randomBook(r, dims, width, 4)
		l := randomVectors(r, r.IntN(8), dims, width)
		for _, m := range metrics {
			want := 0
			for _, v := range l {
				want = max(want, keyOf(m, v, wordsOf(b, codeOf(b, m, v))))
			}
			if got := Worst(b, m, l); got != want {
				t.Fatalf("P8.5: Worst(%v, %d, %v) = %d, want %d", b, m, l, got, want)
			}
		}
	}
}

// TestMoreWords checks P8.9: it trains with more and more words.
func TestMoreWords(t *testing.T) {
	r := random()
	for range 300 {
		dims := 1 + r.IntN(api.MaxDims)
		l := randomVectors(r, 1+r.IntN(15), dims, randomWidth(r))
		cuts := randomCuts(r, dims)
		worst := map[int]int{api.MeSum: math.MaxInt, api.MeEuclid: math.MaxInt, api.MeMax: math.MaxInt}
		var before api.Codebook
		for words := 1; words <= len(l)+1; words++ {
			b, e := Train(l, cuts, words)
			if e != api.OK {
				t.Fatalf("P8.5: Train(%v, %v, %d) is %d", l, cuts, words, e)
			}
			enough := true
			for i, n := range lengths(dims, cuts) {
				if words > 1 && (len(b.Words[i]) < len(before.Words[i]) || !reflect.DeepEqual(b.Words[i][:len(before.Words[i])], before.Words[i])) {
					t.Fatalf("P8.9: with %d words: %v, before: %v", words, b, before)
				}
				different := map[string]bool{}
				for _, v := range l {
					different[text(v[cuts[i]:cuts[i]+n])] = true
				}
				if len(b.Words[i]) != min(words, len(different)) {
					t.Fatalf("P8.9: with %d words: %v of %v", words, b, l)
				}
				enough = enough && words >= len(different)
			}
			for _, m := range metrics {
				got := Worst(b, m, l)
				if got > worst[m] || enough && got != 0 || !enough && got == 0 {
					t.Fatalf("P8.9: with %d words Worst is %d, before: %d (%v, %v)", words, got, worst[m], l, cuts)
				}
				worst[m] = got
			}
			before = b
		}
	}
}

// text returns what only equal lists of coordinates have in common.
func text(v []int) string {
	var runes []rune
	for _, x := range v {
		runes = append(runes, rune(2000+x))
	}
	return string(runes)
}
